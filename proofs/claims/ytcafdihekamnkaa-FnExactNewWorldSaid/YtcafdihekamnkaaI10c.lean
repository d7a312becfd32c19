/- Chapter 10's program: a thread copied; NewThread. (printed by tools/mk_i10c.py) -/
import Derived.Test.YtcafdihekamnkaaM10
import Derived.Test.YtcafdihekamnkaaS10n
import Derived.Deep.Cut
namespace Go.Proofs.Ytcafdihekamnkaa
set_option maxRecDepth 100000
open Go.RowKit Go.Proofs Go.Own
open Go Go.BigFrame
set_option linter.unusedVariables false
set_option linter.unusedSimpArgs false
def CopyOwn (w w' : World) (t : ThreadD) (u0 u1 u2 : Value) : Prop := ∃ S0 S1 S2 : Nat → Prop, ownL S0 w' u0 t.prog_ ∧ ownL S1 w' u1 t.open_ ∧ ownL S2 w' u2 t.stack_ ∧ (∀ k, S0 k → Rg w.heap.size w'.heap.size k) ∧ (∀ k, S1 k → Rg w.heap.size w'.heap.size k) ∧ (∀ k, S2 k → Rg w.heap.size w'.heap.size k) ∧ (∀ k, S0 k → ¬ S1 k) ∧ (∀ k, S0 k → ¬ S2 k) ∧ (∀ k, S1 k → ¬ S2 k)
set_option maxHeartbeats 8000000 in
theorem impl_copyThread0 (t : ThreadD) (v0 v1 v2 : Value) (w : World) (h0 : rdsL w v0 t.prog_) (h1 : rdsL w v1 t.open_) (h2 : rdsL w v2 t.stack_) (hx0 : t.prog_.length ≤ 1048576) (hx1 : t.open_.length ≤ 1048576) (hx2 : t.stack_.length ≤ 1048576) :
    Calls Try.prog 42 #[.agg #[.int .i64 t.id_, v0, .int .i64 t.at_, .int .i64 t.reg0_, .int .i64 t.reg1_, .int .i64 t.reg2_, .int .i64 t.reg3_, v1, .int .i64 t.check_, v2, .int .i64 t.mine_, .int .i64 t.state_, .int .i64 t.commits_, .int .i64 t.fails_]] w fun e w' => ∃ u0 u1 u2 : Value, e = .returned (.agg #[.int .i64 t.id_, u0, .int .i64 t.at_, .int .i64 t.reg0_, .int .i64 t.reg1_, .int .i64 t.reg2_, .int .i64 t.reg3_, u1, .int .i64 t.check_, u2, .int .i64 t.mine_, .int .i64 t.state_, .int .i64 t.commits_, .int .i64 t.fails_]) ∧ CopyOwn w w' t u0 u1 u2 ∧ Below w.heap.size w w' := by
  obtain ⟨i0, hi, hz0, hz1, hz2⟩ := info_parts infoInstr
  obtain ⟨j0, hj, hy0, hy1, hy2⟩ := info_parts infoEntry
  have hone := hid (oneCell_enc (f := Instr.enc) (by intro x c hc; simp [Instr.enc] at hc; rcases hc with rfl | rfl | rfl <;> rfl) t.prog_)
  have honE := hid (oneCells_E7 t.open_)
  have H0 := hid h0
  have H1 := hid h1
  have H2 := hid h2
  obtain ⟨a0, c0, rfl, hl0, hm0, -⟩ := rdsL_open h0
  obtain ⟨a1, c1, rfl, hl1, hm1, -⟩ := rdsL_open h1
  obtain ⟨a2, c2, rfl, hl2, hm2, -⟩ := rdsL_open h2
  obtain ⟨W1, hW1⟩ : ∃ X, (w.alloc (.cells #[.int .i64 t.id_, Value.slice a0 t.prog_.length c0, .int .i64 t.at_, .int .i64 t.reg0_, .int .i64 t.reg1_, .int .i64 t.reg2_, .int .i64 t.reg3_, Value.slice a1 t.open_.length c1, .int .i64 t.check_, Value.slice a2 t.stack_.length c2, .int .i64 t.mine_, .int .i64 t.state_, .int .i64 t.commits_, .int .i64 t.fails_] 55)).alloc (.cells #[.int .i64 0, Value.slice none 0 0, .int .i64 0, .int .i64 0, .int .i64 0, .int .i64 0, .int .i64 0, Value.slice none 0 0, .int .i64 0, Value.slice none 0 0, .int .i64 0, .int .i64 0, .int .i64 0, .int .i64 0] 55) = X := ⟨_, rfl⟩
  have hB1 : Below w.heap.size w W1 := by rw [← hW1]; exact ((Below.refl _ _).alloc (Nat.le_refl _) _).alloc (by simp) _
  have hN1 : W1.heap.size = w.heap.size + 2 := by rw [← hW1]; simp
  have B1 : BoxF W1 w.heap.size [.int .i64 t.id_, Value.slice a0 t.prog_.length c0, .int .i64 t.at_, .int .i64 t.reg0_, .int .i64 t.reg1_, .int .i64 t.reg2_, .int .i64 t.reg3_, Value.slice a1 t.open_.length c1, .int .i64 t.check_, Value.slice a2 t.stack_.length c2, .int .i64 t.mine_, .int .i64 t.state_, .int .i64 t.commits_, .int .i64 t.fails_] := by
    rw [← hW1]; exact (BoxF.alloc w #[.int .i64 t.id_, Value.slice a0 t.prog_.length c0, .int .i64 t.at_, .int .i64 t.reg0_, .int .i64 t.reg1_, .int .i64 t.reg2_, .int .i64 t.reg3_, Value.slice a1 t.open_.length c1, .int .i64 t.check_, Value.slice a2 t.stack_.length c2, .int .i64 t.mine_, .int .i64 t.state_, .int .i64 t.commits_, .int .i64 t.fails_] 55).below ((Below.refl _ _).alloc (Nat.le_refl _) _)
  have BR : BoxF W1 (w.heap.size + 1) [.int .i64 0, Value.slice none 0 0, .int .i64 0, .int .i64 0, .int .i64 0, .int .i64 0, .int .i64 0, Value.slice none 0 0, .int .i64 0, Value.slice none 0 0, .int .i64 0, .int .i64 0, .int .i64 0, .int .i64 0] := by
    rw [← hW1]
    have h9 := BoxF.alloc (w.alloc (.cells #[.int .i64 t.id_, Value.slice a0 t.prog_.length c0, .int .i64 t.at_, .int .i64 t.reg0_, .int .i64 t.reg1_, .int .i64 t.reg2_, .int .i64 t.reg3_, Value.slice a1 t.open_.length c1, .int .i64 t.check_, Value.slice a2 t.stack_.length c2, .int .i64 t.mine_, .int .i64 t.state_, .int .i64 t.commits_, .int .i64 t.fails_] 55)) #[.int .i64 0, Value.slice none 0 0, .int .i64 0, .int .i64 0, .int .i64 0, .int .i64 0, .int .i64 0, Value.slice none 0 0, .int .i64 0, Value.slice none 0 0, .int .i64 0, .int .i64 0, .int .i64 0, .int .i64 0] 55
    rw [show (w.alloc (.cells #[.int .i64 t.id_, Value.slice a0 t.prog_.length c0, .int .i64 t.at_, .int .i64 t.reg0_, .int .i64 t.reg1_, .int .i64 t.reg2_, .int .i64 t.reg3_, Value.slice a1 t.open_.length c1, .int .i64 t.check_, Value.slice a2 t.stack_.length c2, .int .i64 t.mine_, .int .i64 t.state_, .int .i64 t.commits_, .int .i64 t.fails_] 55)).heap.size = w.heap.size + 1 by simp] at h9
    exact h9
  have HW1 := hid hW1
  have P1 := hid (rdsInstrs.1 (rdsL.below H0.out hB1))
  clear hW1 h0 h1 h2
  have k1 : W1.cell? ⟨w.heap.size, 1, none⟩ = some (Value.slice a0 t.prog_.length c0) := B1.1.2 1 (show 1 < 14 by decide)
  go_enter Try.func42, Try.ntmps42
  go_upto_region 1 with fail
  rw [HW1.out]
  go_wp2_with (at_builtin; refine wpList_append_flat rfl _ _ 50 rfl (w.heap.size + 2) 72 i0 (.agg #[.int .i64 0, .int .i64 0, .int .i64 0]) 3 24 Try.underlying50 hi hz0 hz1 hz2 rfl (by decide) _ _ _ rfl (World.ownsRow_nil W1 (w.heap.size + 2) 72 3) _ _ _ rfl P1.out hone.out (by unfold maxLen; omega) (by omega) (by omega) ?_)
  intro u0 w3 o3 g3
  have b3 : Below W1.heap.size W1 w3 := below_grown g3 (Nat.le_refl _) (by intro k hk; simp [Value.ownBlock] at hk)
  replace o3 : w3.ownsRow (w.heap.size + 2) 72 3 u0 t.prog_.length (t.prog_.flatMap Instr.enc) := by simpa using o3
  obtain ⟨xa, xc, rfl, -, -⟩ := owns_form o3
  have O0 := hid (show ownL (Rg (w.heap.size + 2) w3.heap.size) w3 (Value.slice xa t.prog_.length xc) t.prog_ from ownInstrs.2 ⟨owns_base o3 (fun _ _ => Nat.zero_le _), fun k hk => owns_in o3 k hk⟩)
  have B3 := B1.below b3
  have BR3 := BR.below b3
  have HB3 := hid (hB1.trans (b3.mono hB1.size))
  have hs3 := b3.size
  clear o3 g3 b3 B1 BR k1 P1
  go_upto_region 2 with (first | (refine wpList_store_cell rfl _ _ _ rfl (w.heap.size) 1 [.int .i64 t.id_, Value.slice a0 t.prog_.length c0, .int .i64 t.at_, .int .i64 t.reg0_, .int .i64 t.reg1_, .int .i64 t.reg2_, .int .i64 t.reg3_, Value.slice a1 t.open_.length c1, .int .i64 t.check_, Value.slice a2 t.stack_.length c2, .int .i64 t.mine_, .int .i64 t.state_, .int .i64 t.commits_, .int .i64 t.fails_] (Value.slice xa t.prog_.length xc) B3 rfl rfl (show 1 < 14 by decide) (by kernel_rfl) rfl rfl ?_; intro w4 B4 C4; replace B4 : BoxF w4 (w.heap.size) [.int .i64 t.id_, Value.slice xa t.prog_.length xc, .int .i64 t.at_, .int .i64 t.reg0_, .int .i64 t.reg1_, .int .i64 t.reg2_, .int .i64 t.reg3_, Value.slice a1 t.open_.length c1, .int .i64 t.check_, Value.slice a2 t.stack_.length c2, .int .i64 t.mine_, .int .i64 t.state_, .int .i64 t.commits_, .int .i64 t.fails_] := B4))
  have BR4 := BR3.chg C4 (by omega)
  have HB4 := hid (below_chg HB3.out C4 (by omega) (fun k hk => by rw [hk]; exact Nat.le_refl _))
  have hs4 := C4.size
  have P4 := hid (rdsEntrys.1 (rdsL.below H1.out HB4.out))
  have O04 := hid (O0.out.chg C4 (fun b hb => ⟨hb.2, fun h => by have := hb.1; omega⟩))
  clear B3 BR3 O0
  have k7 : w4.cell? ⟨w.heap.size, 7, none⟩ = some (Value.slice a1 t.open_.length c1) := B4.1.2 7 (show 7 < 14 by decide)
  go_wp2_with (at_builtin; refine wpList_append_flat rfl _ _ 52 rfl w4.heap.size 102 j0 (.agg #[.int .i64 0, .int .i64 0, .int .i64 0, .int .i64 0, .bool false]) 5 40 Try.underlying52 hj hy0 hy1 hy2 rfl (by decide) _ _ _ rfl (World.ownsRow_nil w4 w4.heap.size 102 5) _ _ _ rfl P4.out honE.out (by unfold maxLen; omega) (by omega) (by omega) ?_)
  intro u1 w5 o5 g5
  have b5 : Below w4.heap.size w4 w5 := below_grown g5 (Nat.le_refl _) (by intro k hk; simp [Value.ownBlock] at hk)
  replace o5 : w5.ownsRow w4.heap.size 102 5 u1 t.open_.length (t.open_.flatMap Entry.enc) := by simpa using o5
  obtain ⟨ya, yc, rfl, -, -⟩ := owns_form o5
  have O1 := hid (show ownL (Rg w4.heap.size w5.heap.size) w5 (Value.slice ya t.open_.length yc) t.open_ from ownEntrys.2 ⟨owns_base o5 (fun _ _ => Nat.zero_le _), fun k hk => owns_in o5 k hk⟩)
  have B5 := B4.below b5
  have BR5 := BR4.below b5
  have HB5 := hid (HB4.out.trans (b5.mono HB4.out.size))
  have hs5 := b5.size
  have O05 := hid (O04.out.keep (w' := w5) fun b hb => b5.block b (Nat.lt_of_lt_of_le hb.2 hs4))
  clear o5 g5 b5 B4 BR4 k7 P4 O04
  go_upto_region 3 with (first | (refine wpList_store_cell rfl _ _ _ rfl (w.heap.size) 7 [.int .i64 t.id_, Value.slice xa t.prog_.length xc, .int .i64 t.at_, .int .i64 t.reg0_, .int .i64 t.reg1_, .int .i64 t.reg2_, .int .i64 t.reg3_, Value.slice a1 t.open_.length c1, .int .i64 t.check_, Value.slice a2 t.stack_.length c2, .int .i64 t.mine_, .int .i64 t.state_, .int .i64 t.commits_, .int .i64 t.fails_] (Value.slice ya t.open_.length yc) B5 rfl rfl (show 7 < 14 by decide) (by kernel_rfl) rfl rfl ?_; intro w6 B6 C6; replace B6 : BoxF w6 (w.heap.size) [.int .i64 t.id_, Value.slice xa t.prog_.length xc, .int .i64 t.at_, .int .i64 t.reg0_, .int .i64 t.reg1_, .int .i64 t.reg2_, .int .i64 t.reg3_, Value.slice ya t.open_.length yc, .int .i64 t.check_, Value.slice a2 t.stack_.length c2, .int .i64 t.mine_, .int .i64 t.state_, .int .i64 t.commits_, .int .i64 t.fails_] := B6))
  have BR6 := BR5.chg C6 (by omega)
  have HB6 := hid (below_chg HB5.out C6 (by omega) (fun k hk => by rw [hk]; exact Nat.le_refl _))
  have hs6 := C6.size
  have P6 := hid (rdsL.below H2.out HB6.out)
  have O06 := hid (O05.out.chg C6 (fun b hb => ⟨by have := hb.2; omega, fun h => by have := hb.1; omega⟩))
  have O16 := hid (O1.out.chg C6 (fun b hb => ⟨hb.2, fun h => by have := hb.1; omega⟩))
  clear B5 BR5 O05 O1
  have k9 : w6.cell? ⟨w.heap.size, 9, none⟩ = some (Value.slice a2 t.stack_.length c2) := B6.1.2 9 (show 9 < 14 by decide)
  go_wp2_with fail
  refine (impl_copyStack _ t.stack_ _ P6.out hx2).mono ?_
  rintro e w7 ⟨u2, S2, rfl, o7, r7, b7⟩
  obtain ⟨za, zm, zc, rfl⟩ := ownL_shape o7
  have O2 := hid o7
  have B7 := B6.below b7
  have BR7 := BR6.below b7
  have HB7 := hid (HB6.out.trans (b7.mono HB6.out.size))
  have hs7 := b7.size
  have O07 := hid (O06.out.keep (w' := w7) fun b hb => b7.block b (by have := hb.2; omega))
  have O17 := hid (O16.out.keep (w' := w7) fun b hb => b7.block b (by have := hb.2; omega))
  clear b7 B6 BR6 k9 P6 O06 O16 o7
  go_upto_region 4 with (first | (refine wpList_store_cell rfl _ _ _ rfl (w.heap.size) 9 [.int .i64 t.id_, Value.slice xa t.prog_.length xc, .int .i64 t.at_, .int .i64 t.reg0_, .int .i64 t.reg1_, .int .i64 t.reg2_, .int .i64 t.reg3_, Value.slice ya t.open_.length yc, .int .i64 t.check_, Value.slice a2 t.stack_.length c2, .int .i64 t.mine_, .int .i64 t.state_, .int .i64 t.commits_, .int .i64 t.fails_] (Value.slice za zm zc) B7 rfl rfl (show 9 < 14 by decide) (by kernel_rfl) rfl rfl ?_; intro w8 B8 C8; replace B8 : BoxF w8 (w.heap.size) [.int .i64 t.id_, Value.slice xa t.prog_.length xc, .int .i64 t.at_, .int .i64 t.reg0_, .int .i64 t.reg1_, .int .i64 t.reg2_, .int .i64 t.reg3_, Value.slice ya t.open_.length yc, .int .i64 t.check_, Value.slice za zm zc, .int .i64 t.mine_, .int .i64 t.state_, .int .i64 t.commits_, .int .i64 t.fails_] := B8))
  have BR8 := BR7.chg C8 (by omega)
  have HB8 := hid (below_chg HB7.out C8 (by omega) (fun k hk => by rw [hk]; exact Nat.le_refl _))
  have hs8 := C8.size
  have O08 := hid (O07.out.chg C8 (fun b hb => ⟨by have := hb.2; omega, fun h => by have := hb.1; omega⟩))
  have O18 := hid (O17.out.chg C8 (fun b hb => ⟨by have := hb.2; omega, fun h => by have := hb.1; omega⟩))
  have O28 := hid (O2.out.chg C8 (fun b hb => ⟨(r7 b hb).2, fun h => by have := (r7 b hb).1; omega⟩))
  clear B7 BR7 O07 O17 O2
  go_wp2_with (first | (refine wpList_load_box rfl _ _ rfl w.heap.size [.int .i64 t.id_, Value.slice xa t.prog_.length xc, .int .i64 t.at_, .int .i64 t.reg0_, .int .i64 t.reg1_, .int .i64 t.reg2_, .int .i64 t.reg3_, Value.slice ya t.open_.length yc, .int .i64 t.check_, Value.slice za zm zc, .int .i64 t.mine_, .int .i64 t.state_, .int .i64 t.commits_, .int .i64 t.fails_] B8.1 rfl _ Try.underlying55 rfl (by kernel_rfl) ?_) | (refine wpList_store_box rfl _ _ _ rfl (w.heap.size + 1) [.int .i64 0, Value.slice none 0 0, .int .i64 0, .int .i64 0, .int .i64 0, .int .i64 0, .int .i64 0, Value.slice none 0 0, .int .i64 0, Value.slice none 0 0, .int .i64 0, .int .i64 0, .int .i64 0, .int .i64 0] [.int .i64 t.id_, Value.slice xa t.prog_.length xc, .int .i64 t.at_, .int .i64 t.reg0_, .int .i64 t.reg1_, .int .i64 t.reg2_, .int .i64 t.reg3_, Value.slice ya t.open_.length yc, .int .i64 t.check_, Value.slice za zm zc, .int .i64 t.mine_, .int .i64 t.state_, .int .i64 t.commits_, .int .i64 t.fails_] BR8 rfl rfl rfl (by kernel_rfl) rfl ?_; intro w9 B9 C9; have HB9 := hid (below_chg HB8.out C9 (by omega) (fun k hk => by rw [hk]; omega)); have O09 := hid (O08.out.chg C9 (fun b hb => ⟨by have := hb.2; omega, fun h => by have := hb.1; omega⟩)); have O19 := hid (O18.out.chg C9 (fun b hb => ⟨by have := hb.2; omega, fun h => by have := hb.1; omega⟩)); have O29 := hid (O28.out.chg C9 (fun b hb => ⟨by have := (r7 b hb).2; omega, fun h => by have := (r7 b hb).1; omega⟩)); have hs9 := C9.size; have z0 : w9.cell? ⟨w.heap.size + 1, 0, none⟩ = some (.int .i64 t.id_) := B9.1.2 0 (show 0 < 14 by decide); have z1 : w9.cell? ⟨w.heap.size + 1, 1, none⟩ = some (Value.slice xa t.prog_.length xc) := B9.1.2 1 (show 1 < 14 by decide); have z2 : w9.cell? ⟨w.heap.size + 1, 2, none⟩ = some (.int .i64 t.at_) := B9.1.2 2 (show 2 < 14 by decide); have z3 : w9.cell? ⟨w.heap.size + 1, 3, none⟩ = some (.int .i64 t.reg0_) := B9.1.2 3 (show 3 < 14 by decide); have z4 : w9.cell? ⟨w.heap.size + 1, 4, none⟩ = some (.int .i64 t.reg1_) := B9.1.2 4 (show 4 < 14 by decide); have z5 : w9.cell? ⟨w.heap.size + 1, 5, none⟩ = some (.int .i64 t.reg2_) := B9.1.2 5 (show 5 < 14 by decide); have z6 : w9.cell? ⟨w.heap.size + 1, 6, none⟩ = some (.int .i64 t.reg3_) := B9.1.2 6 (show 6 < 14 by decide); have z7 : w9.cell? ⟨w.heap.size + 1, 7, none⟩ = some (Value.slice ya t.open_.length yc) := B9.1.2 7 (show 7 < 14 by decide); have z8 : w9.cell? ⟨w.heap.size + 1, 8, none⟩ = some (.int .i64 t.check_) := B9.1.2 8 (show 8 < 14 by decide); have z9 : w9.cell? ⟨w.heap.size + 1, 9, none⟩ = some (Value.slice za zm zc) := B9.1.2 9 (show 9 < 14 by decide); have z10 : w9.cell? ⟨w.heap.size + 1, 10, none⟩ = some (.int .i64 t.mine_) := B9.1.2 10 (show 10 < 14 by decide); have z11 : w9.cell? ⟨w.heap.size + 1, 11, none⟩ = some (.int .i64 t.state_) := B9.1.2 11 (show 11 < 14 by decide); have z12 : w9.cell? ⟨w.heap.size + 1, 12, none⟩ = some (.int .i64 t.commits_) := B9.1.2 12 (show 12 < 14 by decide); have z13 : w9.cell? ⟨w.heap.size + 1, 13, none⟩ = some (.int .i64 t.fails_) := B9.1.2 13 (show 13 < 14 by decide)) | fail)
  refine bodyPost_ret (v := .agg #[.int .i64 t.id_, Value.slice xa t.prog_.length xc, .int .i64 t.at_, .int .i64 t.reg0_, .int .i64 t.reg1_, .int .i64 t.reg2_, .int .i64 t.reg3_, Value.slice ya t.open_.length yc, .int .i64 t.check_, Value.slice za zm zc, .int .i64 t.mine_, .int .i64 t.state_, .int .i64 t.commits_, .int .i64 t.fails_]) ?_ rfl ?_
  · simp [results, Try.results42, go_sem, z0, z1, z2, z3, z4, z5, z6, z7, z8, z9, z10, z11, z12, z13]
  · exact ⟨_, _, _, rfl, ⟨_, _, _, O09.out, O19.out, O29.out, fun k hk => ⟨by have := hk.1; omega, by have := hk.2; omega⟩, fun k hk => ⟨by have := hk.1; omega, by have := hk.2; omega⟩, fun k hk => ⟨by have := (r7 k hk).1; omega, by have := (r7 k hk).2; omega⟩, fun k hk h2 => by have := hk.2; have := h2.1; omega, fun k hk h2 => by have := hk.2; have := (r7 k h2).1; omega, fun k hk h2 => by have := hk.2; have := (r7 k h2).1; omega⟩, HB9.out⟩
set_option maxHeartbeats 8000000 in
theorem impl_NewThread0 (id : Int) (xs : List Instr) (v : Value) (w : World) (h : rdsL w v xs) (hx : xs.length ≤ 1048576) :
    Calls Try.prog 23 #[.int .i64 id, v] w fun e w' => ∃ u0 u1 u2 : Value, e = .returned (.tuple #[.agg #[.int .i64 (newThread id xs).id_, u0, .int .i64 (newThread id xs).at_, .int .i64 (newThread id xs).reg0_, .int .i64 (newThread id xs).reg1_, .int .i64 (newThread id xs).reg2_, .int .i64 (newThread id xs).reg3_, u1, .int .i64 (newThread id xs).check_, u2, .int .i64 (newThread id xs).mine_, .int .i64 (newThread id xs).state_, .int .i64 (newThread id xs).commits_, .int .i64 (newThread id xs).fails_], .bool (newTOk id xs)]) ∧ CopyOwn w w' (newThread id xs) u0 u1 u2 ∧ Below w.heap.size w w' := by
  obtain ⟨a9, c9, rfl, hl, hm, -⟩ := rdsL_open h
  obtain ⟨W1, hW1⟩ : ∃ X, w.alloc (.cells #[.int .i64 0, Value.slice none 0 0, .int .i64 0, .int .i64 0, .int .i64 0, .int .i64 0, .int .i64 0, Value.slice none 0 0, .int .i64 0, Value.slice none 0 0, .int .i64 0, .int .i64 0, .int .i64 0, .int .i64 0] 55) = X := ⟨_, rfl⟩
  have hB1 : Below w.heap.size w W1 := by rw [← hW1]; exact (Below.refl _ _).alloc (Nat.le_refl _) _
  have bt : BoxF W1 w.heap.size [.int .i64 0, Value.slice none 0 0, .int .i64 0, .int .i64 0, .int .i64 0, .int .i64 0, .int .i64 0, Value.slice none 0 0, .int .i64 0, Value.slice none 0 0, .int .i64 0, .int .i64 0, .int .i64 0, .int .i64 0] := by rw [← hW1]; exact BoxF.alloc _ _ _
  have HW1 := hid hW1
  have R1 := hid (rdsL.below h hB1)
  have HB1 := hid hB1
  have hN1 : W1.heap.size = w.heap.size + 1 := by rw [← hW1]; simp
  clear hW1 h hB1
  go_enter Try.func23, Try.ntmps23
  go_upto_region 1 with fail
  rw [HW1.out]
  rw [show W1 = (Ext.here W1).w from rfl]
  cases hI : inB id 0 3 with
  | false =>
    have HN : Hid (newTOk id xs = false) := hid (show newTOk id xs = false by unfold newTOk; rw [hI]; rfl)
    have HT := hid (show newThread id xs = ⟨0, [], 0, 0, 0, 0, 0, [], 0, [], 0, 0, 0, 0⟩ by unfold newThread; rw [HN.out]; rfl)
    (refine wp_region_ext0 W1 (Ext.h _) ?_; (try dsimp only [List.append]); (repeat (go_big_quiet_step (first | (go_at_call 40; exact call_ext_same _ (impl_isThreadIs _ _ _ hI)) | (go_at_call 41; exact call_ext _ (impl_ProgOkIs xs _ _ _ (Ext.rds R1.out _) hP))))); refine wpQuiet_nil ?_; rintro _ ⟨E, rfl⟩)
    have HBE := hid (HB1.out.trans (E.h.mono HB1.out.size))
    have btE := bt.below E.h
    go_wp2_with (first | (refine wpList_store_box rfl _ _ _ rfl w.heap.size [.int .i64 0, Value.slice none 0 0, .int .i64 0, .int .i64 0, .int .i64 0, .int .i64 0, .int .i64 0, Value.slice none 0 0, .int .i64 0, Value.slice none 0 0, .int .i64 0, .int .i64 0, .int .i64 0, .int .i64 0] [.int .i64 0, Value.slice none 0 0, .int .i64 0, .int .i64 0, .int .i64 0, .int .i64 0, .int .i64 0, Value.slice none 0 0, .int .i64 0, Value.slice none 0 0, .int .i64 0, .int .i64 0, .int .i64 0, .int .i64 0] btE rfl rfl rfl (by kernel_rfl) rfl ?_; intro w2 B2 C2; have HB2 := hid (below_chg HBE.out C2 (by have := HBE.out.size; omega) (fun k hk => by rw [hk]; exact Nat.le_refl _)); have z0 : w2.cell? ⟨w.heap.size, 0, none⟩ = some (.int .i64 0) := B2.1.2 0 (show 0 < 14 by decide); have z1 : w2.cell? ⟨w.heap.size, 1, none⟩ = some (Value.slice none 0 0) := B2.1.2 1 (show 1 < 14 by decide); have z2 : w2.cell? ⟨w.heap.size, 2, none⟩ = some (.int .i64 0) := B2.1.2 2 (show 2 < 14 by decide); have z3 : w2.cell? ⟨w.heap.size, 3, none⟩ = some (.int .i64 0) := B2.1.2 3 (show 3 < 14 by decide); have z4 : w2.cell? ⟨w.heap.size, 4, none⟩ = some (.int .i64 0) := B2.1.2 4 (show 4 < 14 by decide); have z5 : w2.cell? ⟨w.heap.size, 5, none⟩ = some (.int .i64 0) := B2.1.2 5 (show 5 < 14 by decide); have z6 : w2.cell? ⟨w.heap.size, 6, none⟩ = some (.int .i64 0) := B2.1.2 6 (show 6 < 14 by decide); have z7 : w2.cell? ⟨w.heap.size, 7, none⟩ = some (Value.slice none 0 0) := B2.1.2 7 (show 7 < 14 by decide); have z8 : w2.cell? ⟨w.heap.size, 8, none⟩ = some (.int .i64 0) := B2.1.2 8 (show 8 < 14 by decide); have z9 : w2.cell? ⟨w.heap.size, 9, none⟩ = some (Value.slice none 0 0) := B2.1.2 9 (show 9 < 14 by decide); have z10 : w2.cell? ⟨w.heap.size, 10, none⟩ = some (.int .i64 0) := B2.1.2 10 (show 10 < 14 by decide); have z11 : w2.cell? ⟨w.heap.size, 11, none⟩ = some (.int .i64 0) := B2.1.2 11 (show 11 < 14 by decide); have z12 : w2.cell? ⟨w.heap.size, 12, none⟩ = some (.int .i64 0) := B2.1.2 12 (show 12 < 14 by decide); have z13 : w2.cell? ⟨w.heap.size, 13, none⟩ = some (.int .i64 0) := B2.1.2 13 (show 13 < 14 by decide)) | fail)
    simp only [HT.out, HN.out]
    refine bodyPost_ret (v := .tuple #[.agg #[.int .i64 0, Value.slice none 0 0, .int .i64 0, .int .i64 0, .int .i64 0, .int .i64 0, .int .i64 0, Value.slice none 0 0, .int .i64 0, Value.slice none 0 0, .int .i64 0, .int .i64 0, .int .i64 0, .int .i64 0], .bool false]) ?_ rfl ?_
    · simp [results, Try.results23, go_sem, z0, z1, z2, z3, z4, z5, z6, z7, z8, z9, z10, z11, z12, z13]
    · exact ⟨_, _, _, rfl, ⟨fun _ => False, fun _ => False, fun _ => False, ownL_nil _ _, ownL_nil _ _, ownL_nil _ _, fun _ h => h.elim, fun _ h => h.elim, fun _ h => h.elim, fun _ h => h.elim, fun _ h => h.elim, fun _ h => h.elim⟩, HB2.out⟩
  | true =>
  cases hP : progOk xs with
  | false =>
    have HN : Hid (newTOk id xs = false) := hid (show newTOk id xs = false by unfold newTOk; rw [hP, Bool.and_false])
    have HT := hid (show newThread id xs = ⟨0, [], 0, 0, 0, 0, 0, [], 0, [], 0, 0, 0, 0⟩ by unfold newThread; rw [HN.out]; rfl)
    (refine wp_region_ext0 W1 (Ext.h _) ?_; (try dsimp only [List.append]); (repeat (go_big_quiet_step (first | (go_at_call 40; exact call_ext_same _ (impl_isThreadIs _ _ _ hI)) | (go_at_call 41; exact call_ext _ (impl_ProgOkIs xs _ _ _ (Ext.rds R1.out _) hP))))); refine wpQuiet_nil ?_; rintro _ ⟨E, rfl⟩)
    have HBE := hid (HB1.out.trans (E.h.mono HB1.out.size))
    have btE := bt.below E.h
    go_wp2_with (first | (refine wpList_store_box rfl _ _ _ rfl w.heap.size [.int .i64 0, Value.slice none 0 0, .int .i64 0, .int .i64 0, .int .i64 0, .int .i64 0, .int .i64 0, Value.slice none 0 0, .int .i64 0, Value.slice none 0 0, .int .i64 0, .int .i64 0, .int .i64 0, .int .i64 0] [.int .i64 0, Value.slice none 0 0, .int .i64 0, .int .i64 0, .int .i64 0, .int .i64 0, .int .i64 0, Value.slice none 0 0, .int .i64 0, Value.slice none 0 0, .int .i64 0, .int .i64 0, .int .i64 0, .int .i64 0] btE rfl rfl rfl (by kernel_rfl) rfl ?_; intro w2 B2 C2; have HB2 := hid (below_chg HBE.out C2 (by have := HBE.out.size; omega) (fun k hk => by rw [hk]; exact Nat.le_refl _)); have z0 : w2.cell? ⟨w.heap.size, 0, none⟩ = some (.int .i64 0) := B2.1.2 0 (show 0 < 14 by decide); have z1 : w2.cell? ⟨w.heap.size, 1, none⟩ = some (Value.slice none 0 0) := B2.1.2 1 (show 1 < 14 by decide); have z2 : w2.cell? ⟨w.heap.size, 2, none⟩ = some (.int .i64 0) := B2.1.2 2 (show 2 < 14 by decide); have z3 : w2.cell? ⟨w.heap.size, 3, none⟩ = some (.int .i64 0) := B2.1.2 3 (show 3 < 14 by decide); have z4 : w2.cell? ⟨w.heap.size, 4, none⟩ = some (.int .i64 0) := B2.1.2 4 (show 4 < 14 by decide); have z5 : w2.cell? ⟨w.heap.size, 5, none⟩ = some (.int .i64 0) := B2.1.2 5 (show 5 < 14 by decide); have z6 : w2.cell? ⟨w.heap.size, 6, none⟩ = some (.int .i64 0) := B2.1.2 6 (show 6 < 14 by decide); have z7 : w2.cell? ⟨w.heap.size, 7, none⟩ = some (Value.slice none 0 0) := B2.1.2 7 (show 7 < 14 by decide); have z8 : w2.cell? ⟨w.heap.size, 8, none⟩ = some (.int .i64 0) := B2.1.2 8 (show 8 < 14 by decide); have z9 : w2.cell? ⟨w.heap.size, 9, none⟩ = some (Value.slice none 0 0) := B2.1.2 9 (show 9 < 14 by decide); have z10 : w2.cell? ⟨w.heap.size, 10, none⟩ = some (.int .i64 0) := B2.1.2 10 (show 10 < 14 by decide); have z11 : w2.cell? ⟨w.heap.size, 11, none⟩ = some (.int .i64 0) := B2.1.2 11 (show 11 < 14 by decide); have z12 : w2.cell? ⟨w.heap.size, 12, none⟩ = some (.int .i64 0) := B2.1.2 12 (show 12 < 14 by decide); have z13 : w2.cell? ⟨w.heap.size, 13, none⟩ = some (.int .i64 0) := B2.1.2 13 (show 13 < 14 by decide)) | fail)
    simp only [HT.out, HN.out]
    refine bodyPost_ret (v := .tuple #[.agg #[.int .i64 0, Value.slice none 0 0, .int .i64 0, .int .i64 0, .int .i64 0, .int .i64 0, .int .i64 0, Value.slice none 0 0, .int .i64 0, Value.slice none 0 0, .int .i64 0, .int .i64 0, .int .i64 0, .int .i64 0], .bool false]) ?_ rfl ?_
    · simp [results, Try.results23, go_sem, z0, z1, z2, z3, z4, z5, z6, z7, z8, z9, z10, z11, z12, z13]
    · exact ⟨_, _, _, rfl, ⟨fun _ => False, fun _ => False, fun _ => False, ownL_nil _ _, ownL_nil _ _, ownL_nil _ _, fun _ h => h.elim, fun _ h => h.elim, fun _ h => h.elim, fun _ h => h.elim, fun _ h => h.elim, fun _ h => h.elim⟩, HB2.out⟩
  | true =>
    have HN := hid (show newTOk id xs = true by unfold newTOk; rw [hI, hP]; rfl)
    have HT := hid (show newThread id xs = ⟨id, xs, 0, 0, 0, 0, 0, [], -1, [], -1, 0, 0, 0⟩ by unfold newThread; rw [HN.out]; rfl)
    (refine wp_region_ext0 W1 (Ext.h _) ?_; (try dsimp only [List.append]); (repeat (go_big_quiet_step (first | (go_at_call 40; exact call_ext_same _ (impl_isThreadIs _ _ _ hI)) | (go_at_call 41; exact call_ext _ (impl_ProgOkIs xs _ _ _ (Ext.rds R1.out _) hP))))); refine wpQuiet_nil ?_; rintro _ ⟨E, rfl⟩)
    have HBE := hid (HB1.out.trans (E.h.mono HB1.out.size))
    have btE := bt.below E.h
    have hsE := E.size
    have RE := hid (rdsL.below R1.out E.h)
    obtain ⟨X, hX⟩ : ∃ X, X = E.w := ⟨_, rfl⟩
    rw [← hX] at btE hsE RE HBE ⊢
    clear hX
    go_wp2_with fail
    refine (impl_copyThread0 ⟨id, xs, 0, 0, 0, 0, 0, [], -1, [], -1, 0, 0, 0⟩ _ _ _ _ RE.out (ownL_nil (fun _ => True) _).rds (ownL_nil (fun _ => True) _).rds hx (by simp) (by simp)).mono ?_
    rintro e w3 ⟨u0, u1, u2, rfl, ⟨S0, S1, S2, o0, o1, o2, r0, r1, r2, d01, d02, d12⟩, b3⟩
    dsimp only at o0 o1 o2
    obtain ⟨xa, xm, xc, rfl⟩ := ownL_shape o0
    obtain ⟨ya, ym, yc, rfl⟩ := ownL_shape o1
    obtain ⟨za, zm, zc, rfl⟩ := ownL_shape o2
    have bt3 := btE.below b3
    have hs3 := b3.size
    have HB3 := hid (HBE.out.trans (b3.mono HBE.out.size))
    have Q0 := hid o0
    have Q1 := hid o1
    have Q2 := hid o2
    clear o0 o1 o2 btE
    go_wp2_with (first | (refine wpList_store_box rfl _ _ _ rfl w.heap.size [.int .i64 0, Value.slice none 0 0, .int .i64 0, .int .i64 0, .int .i64 0, .int .i64 0, .int .i64 0, Value.slice none 0 0, .int .i64 0, Value.slice none 0 0, .int .i64 0, .int .i64 0, .int .i64 0, .int .i64 0] [.int .i64 id, Value.slice xa xm xc, .int .i64 0, .int .i64 0, .int .i64 0, .int .i64 0, .int .i64 0, Value.slice ya ym yc, .int .i64 (-1), Value.slice za zm zc, .int .i64 (-1), .int .i64 0, .int .i64 0, .int .i64 0] bt3 rfl rfl rfl (by kernel_rfl) rfl ?_; intro w2 B2 C2; have HB2 := hid (below_chg HB3.out C2 (by omega) (fun k hk => by rw [hk]; exact Nat.le_refl _)); have hs2 := C2.size; have P0 := hid (Q0.out.chg C2 (fun b hb => ⟨(r0 b hb).2, fun h => by have := (r0 b hb).1; omega⟩)); have P1 := hid (Q1.out.chg C2 (fun b hb => ⟨(r1 b hb).2, fun h => by have := (r1 b hb).1; omega⟩)); have P2 := hid (Q2.out.chg C2 (fun b hb => ⟨(r2 b hb).2, fun h => by have := (r2 b hb).1; omega⟩)); have z0 : w2.cell? ⟨w.heap.size, 0, none⟩ = some (.int .i64 id) := B2.1.2 0 (show 0 < 14 by decide); have z1 : w2.cell? ⟨w.heap.size, 1, none⟩ = some (Value.slice xa xm xc) := B2.1.2 1 (show 1 < 14 by decide); have z2 : w2.cell? ⟨w.heap.size, 2, none⟩ = some (.int .i64 0) := B2.1.2 2 (show 2 < 14 by decide); have z3 : w2.cell? ⟨w.heap.size, 3, none⟩ = some (.int .i64 0) := B2.1.2 3 (show 3 < 14 by decide); have z4 : w2.cell? ⟨w.heap.size, 4, none⟩ = some (.int .i64 0) := B2.1.2 4 (show 4 < 14 by decide); have z5 : w2.cell? ⟨w.heap.size, 5, none⟩ = some (.int .i64 0) := B2.1.2 5 (show 5 < 14 by decide); have z6 : w2.cell? ⟨w.heap.size, 6, none⟩ = some (.int .i64 0) := B2.1.2 6 (show 6 < 14 by decide); have z7 : w2.cell? ⟨w.heap.size, 7, none⟩ = some (Value.slice ya ym yc) := B2.1.2 7 (show 7 < 14 by decide); have z8 : w2.cell? ⟨w.heap.size, 8, none⟩ = some (.int .i64 (-1)) := B2.1.2 8 (show 8 < 14 by decide); have z9 : w2.cell? ⟨w.heap.size, 9, none⟩ = some (Value.slice za zm zc) := B2.1.2 9 (show 9 < 14 by decide); have z10 : w2.cell? ⟨w.heap.size, 10, none⟩ = some (.int .i64 (-1)) := B2.1.2 10 (show 10 < 14 by decide); have z11 : w2.cell? ⟨w.heap.size, 11, none⟩ = some (.int .i64 0) := B2.1.2 11 (show 11 < 14 by decide); have z12 : w2.cell? ⟨w.heap.size, 12, none⟩ = some (.int .i64 0) := B2.1.2 12 (show 12 < 14 by decide); have z13 : w2.cell? ⟨w.heap.size, 13, none⟩ = some (.int .i64 0) := B2.1.2 13 (show 13 < 14 by decide)) | fail)
    simp only [HT.out, HN.out]
    refine bodyPost_ret (v := .tuple #[.agg #[.int .i64 id, Value.slice xa xm xc, .int .i64 0, .int .i64 0, .int .i64 0, .int .i64 0, .int .i64 0, Value.slice ya ym yc, .int .i64 (-1), Value.slice za zm zc, .int .i64 (-1), .int .i64 0, .int .i64 0, .int .i64 0], .bool true]) ?_ rfl ?_
    · simp [results, Try.results23, go_sem, z0, z1, z2, z3, z4, z5, z6, z7, z8, z9, z10, z11, z12, z13]
    · exact ⟨_, _, _, rfl, ⟨S0, S1, S2, P0.out, P1.out, P2.out, fun k hk => ⟨by have := (r0 k hk).1; omega, by have := (r0 k hk).2; omega⟩, fun k hk => ⟨by have := (r1 k hk).1; omega, by have := (r1 k hk).2; omega⟩, fun k hk => ⟨by have := (r2 k hk).1; omega, by have := (r2 k hk).2; omega⟩, d01, d02, d12⟩, HB2.out⟩
end Go.Proofs.Ytcafdihekamnkaa
