/- Chapter 7's program: one step of a frame, on a store of the call's own. -/
import Derived.Test.YtbbdchlabdilcabGreatM10
import Derived.ScopeJumps
import Derived.Test.YtbbdchlabdilcabGreatS7g
import Derived.Deep.Cut
/- Chapter 7's program: a frame's step: the place behind, a decision, a head freed. -/
namespace Go.Proofs.YtbbdchlabdilcabGreat
set_option maxRecDepth 100000
open Go.RowKit Go.Proofs Go.Own
set_option linter.unusedVariables false
set_option linter.unusedSimpArgs false
/-- The place behind an entry; 0 behind the last. -/
def behindC (a n : Nat) : Int := if a + 1 < n then ((a : Int) + 1) else 0
set_option maxHeartbeats 1000000 in
theorem impl_behind (g o : Nat) (ad : Option Addr) (n cap : Nat) (a : Nat) (w : World) (h2 : w.cell? ⟨g, o + 2, none⟩ = some (.slice ad n cap)) (hn : 0 < n) (hn2 : n ≤ 1048576) (ha : a < n) :
    Calls Tryz.prog 133 #[.pointer (some ⟨g, o, none⟩), .int .i64 (a : Int)] w fun e w' => e = .returned (.int .i64 (behindC a n)) ∧ w = w' := by
  have h1 : ¬ (n : Int) = 0 := by omega
  have h1' : ((n : Int) == 0) = false := by rw [beq_eq_false_iff_ne]; omega
  have hm2 := hid (show ((a : Int) + 1) % (n : Int) = behindC a n by
    unfold behindC
    by_cases h : a + 1 < n
    · rw [if_pos h]; exact Int.emod_eq_of_lt (by omega) (by omega)
    · rw [if_neg h, show (a : Int) + 1 = (n : Int) by omega, Int.emod_self])
  go_enter Tryz.func133, Tryz.ntmps133
  go_wp2
  go_ret
  exact ⟨ret_int hm2.out, rfl⟩
set_option maxHeartbeats 1000000 in
theorem impl_decideY (g o : Nat) (x : Int) (w : World) (h1 : w.cell? ⟨g, o + 1, none⟩ = some (.int .i64 0)) (f1 : w.frozen? ⟨g, o + 1, none⟩ = false) :
    Calls Tryz.prog 134 #[.pointer (some ⟨g, o, none⟩), .int .i64 x] w fun e w' => e = .returned (.tuple #[]) ∧ w' = w.setCell ⟨g, o + 1, none⟩ (.int .i64 x) := by
  go_enter Tryz.func134, Tryz.ntmps134
  go_wp2
  refine bodyPost_end (results_none rfl _ _ _) rfl ⟨rfl, rfl⟩
set_option maxHeartbeats 1000000 in
theorem impl_decideN (g o : Nat) (st x : Int) (w : World) (h1 : w.cell? ⟨g, o + 1, none⟩ = some (.int .i64 st)) (hs : ¬ st = 0) :
    Calls Tryz.prog 134 #[.pointer (some ⟨g, o, none⟩), .int .i64 x] w fun e w' => e = .returned (.tuple #[]) ∧ w' = w := by
  have hs' : (st == 0) = false := by rw [beq_eq_false_iff_ne]; exact hs
  go_enter Tryz.func134, Tryz.ntmps134
  go_wp2
  refine bodyPost_end (results_none rfl _ _ _) rfl ⟨rfl, rfl⟩
set_option maxHeartbeats 2000000 in
theorem impl_freeY (g o : Nat) (x v d st : Int) (e : Entry) (w : World) (hg : g < w.heap.size) (h0 : w.cell? ⟨g, o, none⟩ = some (.int .i64 x)) (h1 : w.cell? ⟨g, o + 1, none⟩ = some (.int .i64 v)) (h2 : w.cell? ⟨g, o + 2, none⟩ = some (.int .i64 d)) (f0 : w.frozen? ⟨g, o, none⟩ = false) (f1 : w.frozen? ⟨g, o + 1, none⟩ = false) (f2 : w.frozen? ⟨g, o + 2, none⟩ = false) (hv : 0 ≤ v ∧ v ≤ 1000000) (hs : st = 1) (hw : e.write_ = true) :
    Calls Tryz.prog 135 #[.pointer (some ⟨g, o, none⟩), .agg #[.int .i64 e.object_, .int .i64 e.version_, .int .i64 e.old_, .int .i64 e.new_, .bool e.write_], .int .i64 st] w fun r w' => r = .returned (.tuple #[]) ∧ w' = (((w.setCell ⟨g, o + 2, none⟩ (.int .i64 (-1))).setCell ⟨g, o, none⟩ (.int .i64 e.new_)).setCell ⟨g, o + 1, none⟩ (.int .i64 ((v + 1) % 1000001))).alloc (.cells #[.int .i64 e.object_, .int .i64 e.version_, .int .i64 e.old_, .int .i64 e.new_, .bool e.write_] 121) := by
  obtain ⟨e0, e1, e2, e3, e4⟩ := e
  dsimp only at *
  obtain ⟨hv0, hv1⟩ := hv
  have hne : g ≠ w.heap.size := by omega
  subst hs hw
  go_enter Tryz.func135, Tryz.ntmps135
  go_wp2
  refine bodyPost_end (results_none rfl _ _ _) rfl ⟨rfl, rfl⟩
set_option maxHeartbeats 2000000 in
theorem impl_freeN (g o : Nat) (x v d st : Int) (e : Entry) (w : World) (hg : g < w.heap.size) (h0 : w.cell? ⟨g, o, none⟩ = some (.int .i64 x)) (h1 : w.cell? ⟨g, o + 1, none⟩ = some (.int .i64 v)) (h2 : w.cell? ⟨g, o + 2, none⟩ = some (.int .i64 d)) (f0 : w.frozen? ⟨g, o, none⟩ = false) (f1 : w.frozen? ⟨g, o + 1, none⟩ = false) (f2 : w.frozen? ⟨g, o + 2, none⟩ = false) (hv : 0 ≤ v ∧ v ≤ 1000000) (hs : (st == 1) = false) :
    Calls Tryz.prog 135 #[.pointer (some ⟨g, o, none⟩), .agg #[.int .i64 e.object_, .int .i64 e.version_, .int .i64 e.old_, .int .i64 e.new_, .bool e.write_], .int .i64 st] w fun r w' => r = .returned (.tuple #[]) ∧ w' = (w.setCell ⟨g, o + 2, none⟩ (.int .i64 (-1))).alloc (.cells #[.int .i64 e.object_, .int .i64 e.version_, .int .i64 e.old_, .int .i64 e.new_, .bool e.write_] 121) := by
  obtain ⟨e0, e1, e2, e3, e4⟩ := e
  dsimp only at *
  obtain ⟨hv0, hv1⟩ := hv
  have hne : g ≠ w.heap.size := by omega
  go_enter Tryz.func135, Tryz.ntmps135
  go_wp2
  refine bodyPost_end (results_none rfl _ _ _) rfl ⟨rfl, rfl⟩
set_option maxHeartbeats 2000000 in
theorem impl_freeN2 (g o : Nat) (x v d st : Int) (e : Entry) (w : World) (hg : g < w.heap.size) (h0 : w.cell? ⟨g, o, none⟩ = some (.int .i64 x)) (h1 : w.cell? ⟨g, o + 1, none⟩ = some (.int .i64 v)) (h2 : w.cell? ⟨g, o + 2, none⟩ = some (.int .i64 d)) (f0 : w.frozen? ⟨g, o, none⟩ = false) (f1 : w.frozen? ⟨g, o + 1, none⟩ = false) (f2 : w.frozen? ⟨g, o + 2, none⟩ = false) (hv : 0 ≤ v ∧ v ≤ 1000000) (hs : st = 1) (hw : e.write_ = false) :
    Calls Tryz.prog 135 #[.pointer (some ⟨g, o, none⟩), .agg #[.int .i64 e.object_, .int .i64 e.version_, .int .i64 e.old_, .int .i64 e.new_, .bool e.write_], .int .i64 st] w fun r w' => r = .returned (.tuple #[]) ∧ w' = (w.setCell ⟨g, o + 2, none⟩ (.int .i64 (-1))).alloc (.cells #[.int .i64 e.object_, .int .i64 e.version_, .int .i64 e.old_, .int .i64 e.new_, .bool e.write_] 121) := by
  obtain ⟨e0, e1, e2, e3, e4⟩ := e
  dsimp only at *
  obtain ⟨hv0, hv1⟩ := hv
  have hne : g ≠ w.heap.size := by omega
  subst hs hw
  go_enter Tryz.func135, Tryz.ntmps135
  go_wp2
  refine bodyPost_end (results_none rfl _ _ _) rfl ⟨rfl, rfl⟩
end Go.Proofs.YtbbdchlabdilcabGreat
/- A scope whose jumps all lead on: each label's rest is walked where it is met. Of any program. -/
namespace Go
/-- As Q; by a goto to a label of the scope: the rest from that label on, walked, jumps no more. -/
def Exit.on (P : Program) (c : Code) (Q : Exit → Act → World → Prop) : Exit → Act → World → Prop
  | .goto l, a, w => ∃ rest, findLabel c l = some rest ∧ rest.wp P (Exit.noGoto Q) a w
  | e, a, w => Q e a w
section
variable {P : Program} {a : Act} {w : World} {Q : Exit → Act → World → Prop}
theorem wp_scope_on {c : Code} (h : c.wp P (Exit.on P c Q) a w) : (Code.scope c).wp P Q a w := by
  intro b k cs
  obtain ⟨e, a₁, w₁, hq, harr⟩ := h b (.inScope c :: k) cs
  cases e with
  | normal => exact ⟨.normal, a₁, w₁, hq, .head step_scope (Steps.trans harr (.one step_inScope))⟩
  | exit id => exact ⟨.exit id, a₁, w₁, hq, fun k' hk => .head step_scope (harr k' (by simp [exitTo, hk]))⟩
  | goto l =>
    obtain ⟨rest, hf, hw⟩ := hq
    have hg : gotoIn l (.inScope c :: k) = some (.code rest :: .inScope c :: k) := by simp [gotoIn, hf]
    have key : ∃ e a' w', Q e a' w' ∧ Arrives P (lone (b.at a₁ (.code rest :: .inScope c :: k)) cs w₁) b k cs e a' w' := by
      obtain ⟨e, a₂, w₂, hq, harr⟩ := hw b (.inScope c :: k) cs
      cases e with
      | normal => exact ⟨.normal, a₂, w₂, hq, Steps.trans harr (.one step_inScope)⟩
      | exit id => exact ⟨.exit id, a₂, w₂, hq, fun k' hk => harr k' (by simp [exitTo, hk])⟩
      | goto l' => exact hq.elim
      | ret => exact ⟨_, a₂, w₂, hq, harr⟩
      | panic ch => exact ⟨_, a₂, w₂, hq, harr⟩
      | outgrown => exact ⟨_, a₂, w₂, hq, harr⟩
    obtain ⟨e₂, a₂, w₂, hq₂, harr₂⟩ := key
    exact ⟨e₂, a₂, w₂, hq₂, .of_steps (.head step_scope (harr _ hg)) harr₂⟩
  | ret => exact ⟨_, a₁, w₁, hq, .of_steps (.one step_scope) harr⟩
  | panic ch => exact ⟨_, a₁, w₁, hq, .of_steps (.one step_scope) harr⟩
  | outgrown => exact ⟨_, a₁, w₁, hq, .of_steps (.one step_scope) harr⟩
/-- At a jump: the label's rest. -/
theorem on_goto {c rest : Code} {l : Nat} {K : Act → World → Prop} (hf : findLabel c l = some rest) (h : rest.wp P (Exit.noGoto Q) a w) : Exit.then K (Exit.on P c Q) (.goto l) a w := ⟨rest, hf, h⟩
theorem on_ret {c : Code} (h : Q .ret a w) : Exit.on P c Q .ret a w := h
end
end Go
namespace Go.Proofs.YtbbdchlabdilcabGreat
set_option maxRecDepth 100000
open Go.RowKit Go.Proofs Go.Own
open Go Go.BigFrame
set_option linter.unusedVariables false
set_option linter.unusedSimpArgs false
set_option maxHeartbeats 8000000 in
theorem impl_drive0 (hs : List Head) (ds : List DescD) (S0 S1 : Nat → Prop) (v0 v1 : Value) (f : Frame) (w : World) (hS0 : ∀ b, S0 b → b < w.heap.size) (hS1 : ∀ b, S1 b → b < w.heap.size) (hdj : ∀ b, S0 b → ¬ S1 b) (h0 : ownL S0 w v0 hs) (h1 : ownL S1 w v1 ds) (hf : frameOk hs ds f = true) :
    Calls Tryz.prog 117 #[.agg #[v0, v1], .agg #[.int .i64 f.desc_, .int .i64 f.phase_, .int .i64 f.at_]] w fun e w' => e = .returned (.tuple #[.agg #[.int .i64 (stepF hs ds f).desc_, .int .i64 (stepF hs ds f).phase_, .int .i64 (stepF hs ds f).at_], .int .i64 (stepN hs ds f)]) ∧ ownL S0 w' v0 (stepH hs ds f) ∧ ownL S1 w' v1 (stepD ds f) ∧ ChgS (fun b => S0 b ∨ S1 b) w w' := by
  obtain ⟨hst, k, hfd, hk, hph, a, hfa, ha, hat⟩ := frameOk_parts hf
  obtain ⟨fd, fp, fa⟩ := f
  dsimp only at hfd hph hfa hat ⊢
  subst hfd hfa
  clear hf
  rw [entsAt_eq hk] at ha
  have hs60 := (storeOk_all hst).2.1
  have hs8 := (storeOk_all hst).1.2
  have hlen1 : ds.length ≤ 9223372036854775807 := by omega
  have hlen0 : hs.length ≤ 9223372036854775807 := by omega
  obtain ⟨ob, hob, hoh⟩ := cur_obj hst hk ha
  obtain ⟨hver, hde1, hde2⟩ := head_in hst hoh
  have he6 : ds[k].entries_.length ≤ 6 := by
    have h9 := (storeOk_all hst).2.2.1 k hk
    rw [descIn_is] at h9
    simp only [Bool.and_eq_true] at h9
    exact (descOk_len h9.1).2
  have hcE := hid (show curE ds ⟨(k : Int), fp, (a : Int)⟩ = ds[k].entries_[a] by unfold curE; dsimp only; rw [entsAt_eq hk, eAt_eq ha])
  have hcO := hid (show curO ds ⟨(k : Int), fp, (a : Int)⟩ = (ob : Int) by unfold curO; rw [hcE.out, hob])
  have hcH := hid (show curH hs ds ⟨(k : Int), fp, (a : Int)⟩ = hs[ob] by unfold curH; rw [hcO.out, hAt_eq hoh])
  have hcD := hid (dAt_eq hk)
  have H0 := hid h0
  have H1 := hid h1
  have NX := hid (fun b => show nextF ds ⟨(k : Int), fp, (a : Int)⟩ b = nextF ds ⟨(k : Int), fp, (a : Int)⟩ b from rfl)
  obtain ⟨g0, cap0, rfl, hg0, hgl0, c00, c01, c02, f0⟩ := own_head h0 ob hoh
  obtain ⟨g1, cap1, v2, rfl, hg1, hgl1, c10, c11, c12, hr2, f1, -⟩ := own_desc h1 k hk
  have F0 := hid f0
  have F1 := hid f1
  have hg01 : g0 ≠ g1 := fun e => hdj g0 hg0 (by rw [e]; exact hg1)
  clear f0 f1 h0 h1
  obtain ⟨ea, ecap, rfl, hle, hlm, hce⟩ := (rdsEntrys.1 hr2).open
  obtain ⟨be, off, rfl, hbe, e0, e1, e2, e3, e4⟩ := hce a ha
  rw [hob] at e0
  clear hce hr2
  obtain ⟨D, hDD⟩ : ∃ D, Hid (ds[k] = D) := ⟨_, hid rfl⟩
  obtain ⟨H, hHH⟩ : ∃ H, Hid (hs[ob] = H) := ⟨_, hid rfl⟩
  obtain ⟨E, hEE⟩ : ∃ E, Hid (ds[k].entries_[a] = E) := ⟨_, hid rfl⟩
  obtain ⟨n, hn⟩ : ∃ n, Hid (ds[k].entries_.length = n) := ⟨_, hid rfl⟩
  rw [hn.out] at c12 ha he6 hle
  rw [hDD.out] at c10 c11 hcD
  rw [hHH.out] at c00 c01 c02 hcH hver hde1 hde2
  rw [hEE.out] at e1 e2 e3 e4 hcE hob
  have hki : (k : Int) < (ds.length : Int) := by omega
  have hk0 : (0 : Int) ≤ (k : Int) := by omega
  have hai : (a : Int) < (n : Int) := by omega
  have ha0 : (0 : Int) ≤ (a : Int) := by omega
  have hoi : (ob : Int) < (hs.length : Int) := by omega
  have ho0 : (0 : Int) ≤ (ob : Int) := by omega
  have hn6 : n ≤ 9223372036854775807 := by omega
  obtain ⟨W1, hW1⟩ : ∃ X, ((w.alloc (.cells #[Value.slice (some ⟨g0, 0, none⟩) hs.length cap0, Value.slice (some ⟨g1, 0, none⟩) ds.length cap1] 37)).alloc (.cells #[.int .i64 (k : Int), .int .i64 fp, .int .i64 (a : Int)] 91)).alloc (.cells #[.int .i64 0, .int .i64 0, .int .i64 0] 91) = X := ⟨_, rfl⟩
  have hB1 : Below w.heap.size w W1 := by rw [← hW1]; exact (((Below.refl _ _).alloc (Nat.le_refl _) _).alloc (by simp) _).alloc (by simp; omega) _
  have hN1 : W1.heap.size = w.heap.size + 3 := by rw [← hW1]; simp
  have bs1 : BoxF W1 w.heap.size [Value.slice (some ⟨g0, 0, none⟩) hs.length cap0, Value.slice (some ⟨g1, 0, none⟩) ds.length cap1] := by
    rw [← hW1]
    exact ((BoxF.alloc w #[Value.slice (some ⟨g0, 0, none⟩) hs.length cap0, Value.slice (some ⟨g1, 0, none⟩) ds.length cap1] 37).below ((Below.refl _ _).alloc (Nat.le_refl _) _)).below ((Below.refl _ _).alloc (Nat.le_refl _) _)
  have bf1 : BoxF W1 (w.heap.size + 1) [.int .i64 (k : Int), .int .i64 fp, .int .i64 (a : Int)] := by
    rw [← hW1]
    have h1 := BoxF.alloc (w.alloc (.cells #[Value.slice (some ⟨g0, 0, none⟩) hs.length cap0, Value.slice (some ⟨g1, 0, none⟩) ds.length cap1] 37)) #[.int .i64 (k : Int), .int .i64 fp, .int .i64 (a : Int)] 91
    rw [show (w.alloc (.cells #[Value.slice (some ⟨g0, 0, none⟩) hs.length cap0, Value.slice (some ⟨g1, 0, none⟩) ds.length cap1] 37)).heap.size = w.heap.size + 1 by simp] at h1
    exact h1.below ((Below.refl _ _).alloc (Nat.le_refl _) _)
  have br1 : BoxF W1 (w.heap.size + 1 + 1) [.int .i64 0, .int .i64 0, .int .i64 0] := by
    rw [← hW1]
    have h1 := BoxF.alloc ((w.alloc (.cells #[Value.slice (some ⟨g0, 0, none⟩) hs.length cap0, Value.slice (some ⟨g1, 0, none⟩) ds.length cap1] 37)).alloc (.cells #[.int .i64 (k : Int), .int .i64 fp, .int .i64 (a : Int)] 91)) #[.int .i64 0, .int .i64 0, .int .i64 0] 91
    rw [show ((w.alloc (.cells #[Value.slice (some ⟨g0, 0, none⟩) hs.length cap0, Value.slice (some ⟨g1, 0, none⟩) ds.length cap1] 37)).alloc (.cells #[.int .i64 (k : Int), .int .i64 fp, .int .i64 (a : Int)] 91)).heap.size = w.heap.size + 1 + 1 by simp] at h1
    exact h1
  have x1s0 : W1.cell? ⟨w.heap.size, 0, none⟩ = some (Value.slice (some ⟨g0, 0, none⟩) hs.length cap0) := bs1.1.2 0 (by simp)
  have x1s1 : W1.cell? ⟨w.heap.size, 1, none⟩ = some (Value.slice (some ⟨g1, 0, none⟩) ds.length cap1) := bs1.1.2 1 (by simp)
  have x1f0 : W1.cell? ⟨(w.heap.size + 1), 0, none⟩ = some (.int .i64 (k : Int)) := bf1.1.2 0 (by simp)
  have x1f1 : W1.cell? ⟨(w.heap.size + 1), 1, none⟩ = some (.int .i64 fp) := bf1.1.2 1 (by simp)
  have x1f2 : W1.cell? ⟨(w.heap.size + 1), 2, none⟩ = some (.int .i64 (a : Int)) := bf1.1.2 2 (by simp)
  have x1d2 := (hB1.cell (p := ⟨g1, k * 3 + 2, none⟩) hgl1).trans c12
  have x1e0 := (hB1.cell (p := ⟨be, off + a * 5, none⟩) hbe).trans e0
  have x1e1 := (hB1.cell (p := ⟨be, off + a * 5 + 1, none⟩) hbe).trans e1
  have x1e2 := (hB1.cell (p := ⟨be, off + a * 5 + 2, none⟩) hbe).trans e2
  have x1e3 := (hB1.cell (p := ⟨be, off + a * 5 + 3, none⟩) hbe).trans e3
  have x1e4 := (hB1.cell (p := ⟨be, off + a * 5 + 4, none⟩) hbe).trans e4
  obtain ⟨W2, hW2⟩ : ∃ X, W1.drew.alloc (.cells #[.int .i64 (ob : Int), .int .i64 E.version_, .int .i64 E.old_, .int .i64 E.new_, .bool E.write_] 121) = X := ⟨_, rfl⟩
  have b2 : Below W1.heap.size W1 W2 := by rw [← hW2]; exact (Below.refl _ _).drew.alloc (Nat.le_refl _) _
  have hB2 := hB1.trans (b2.mono hB1.size)
  have hN2 : W2.heap.size = W1.heap.size + 1 := by rw [← hW2]; simp
  have Bs2 := hid (bs1.below b2)
  have Bf2 := hid (bf1.below b2)
  have Br2 := hid (br1.below b2)
  have Be2 : Hid (BoxF W2 W1.heap.size [.int .i64 (ob : Int), .int .i64 E.version_, .int .i64 E.old_, .int .i64 E.new_, .bool E.write_]) := by rw [← hW2]; exact hid (BoxF.alloc W1.drew #[.int .i64 (ob : Int), .int .i64 E.version_, .int .i64 E.old_, .int .i64 E.new_, .bool E.write_] 121)
  have O02 := hid (H0.out.keep (w' := W2) fun b hb => hB2.block b (hS0 b hb))
  have O12 := hid (H1.out.keep (w' := W2) fun b hb => hB2.block b (hS1 b hb))
  have C2 := hid (ChgS.of_below hB2 (fun b => S0 b ∨ S1 b))
  have X2h0 := hid ((hB2.cell (p := ⟨g0, ob * 3, none⟩) hgl0).trans c00)
  have X2h1 := hid ((hB2.cell (p := ⟨g0, ob * 3 + 1, none⟩) hgl0).trans c01)
  have X2h2 := hid ((hB2.cell (p := ⟨g0, ob * 3 + 2, none⟩) hgl0).trans c02)
  have X2d0 := hid ((hB2.cell (p := ⟨g1, k * 3, none⟩) hgl1).trans c10)
  have X2d1 := hid ((hB2.cell (p := ⟨g1, k * 3 + 1, none⟩) hgl1).trans c11)
  have X2d2 := hid ((hB2.cell (p := ⟨g1, k * 3 + 2, none⟩) hgl1).trans c12)
  have Z2h0 := hid ((hB2.frozen (p := ⟨g0, ob * 3, none⟩) hgl0).trans (F0.out _))
  have Z2h1 := hid ((hB2.frozen (p := ⟨g0, ob * 3 + 1, none⟩) hgl0).trans (F0.out _))
  have Z2h2 := hid ((hB2.frozen (p := ⟨g0, ob * 3 + 2, none⟩) hgl0).trans (F0.out _))
  have Z2d1 := hid ((hB2.frozen (p := ⟨g1, k * 3 + 1, none⟩) hgl1).trans (F1.out _))
  have HS0 := hid hS0
  have HS1 := hid hS1
  have Hat := hid hat
  have hRr := hid (show w.heap.size ≤ w.heap.size + 1 + 1 by omega)
  have HN := hid (And.intro hN1 hN2)
  have HW1 := hid hW1
  have HW2 := hid hW2
  have Hg := hid (And.intro hgl0 hgl1)
  clear c00 c01 c02 c10 c11 c12 e0 e1 e2 e3 e4 bs1 bf1 br1 b2 hat hS0 hS1 hW2
  clear hN1 hN2
  go_enter Tryz.func117, Tryz.ntmps117
  go_wp2_with fail
  try rw [HW1.out]
  clear hW1
  refine wp_scope_on ?_
  go_upto_region 2 with fail
  go_cut [7] from 11 (fun p7 wx => p7 = Value.pointer (some ⟨W1.heap.size, 0, none⟩) ∧ wx = W1.drew.alloc (.cells #[.int .i64 (ob : Int), .int .i64 E.version_, .int .i64 E.old_, .int .i64 E.new_, .bool E.write_] 121))
  case first =>
    have hal : Below W1.heap.size W1 (W1.alloc (.cells #[.int .i64 0, .int .i64 0, .int .i64 0, .int .i64 0, .bool false] 121)) := (Below.refl _ _).alloc (Nat.le_refl _) _
    have hlf : w.heap.size + 1 < W1.heap.size := by have h8 := HN.out.1; omega
    have hlg : g1 < W1.heap.size := by have h8 := HN.out.1; omega
    have hlb : be < W1.heap.size := by have h8 := HN.out.1; omega
    have z1d2 := (hal.cell (p := ⟨g1, k * 3 + 2, none⟩) hlg).trans x1d2
    have z1f2 := (hal.cell (p := ⟨w.heap.size + 1, 2, none⟩) hlf).trans x1f2
    have z1e0 := (hal.cell (p := ⟨be, off + a * 5, none⟩) hlb).trans x1e0
    have z1e1 := (hal.cell (p := ⟨be, off + a * 5 + 1, none⟩) hlb).trans x1e1
    have z1e2 := (hal.cell (p := ⟨be, off + a * 5 + 2, none⟩) hlb).trans x1e2
    have z1e3 := (hal.cell (p := ⟨be, off + a * 5 + 3, none⟩) hlb).trans x1e3
    have z1e4 := (hal.cell (p := ⟨be, off + a * 5 + 4, none⟩) hlb).trans x1e4
    clear hal
    go_region
    all_goals go_wp2_with fail
    all_goals go_meet
    all_goals exact ⟨rfl, rfl⟩
  obtain ⟨rfl, rfl⟩ := hcut
  rw [HW2.out]
  clear x1s0 x1s1 x1f0 x1f1 x1f2 x1d2 x1e0 x1e1 x1e2 x1e3 x1e4 hB1
  have x2s0 : W2.cell? ⟨w.heap.size, 0, none⟩ = some (Value.slice (some ⟨g0, 0, none⟩) hs.length cap0) := Bs2.out.1.2 0 (by simp)
  have x2e0 : W2.cell? ⟨W1.heap.size, 0, none⟩ = some (.int .i64 (ob : Int)) := Be2.out.1.2 0 (by simp)
  have x2f0 : W2.cell? ⟨(w.heap.size + 1), 0, none⟩ = some (.int .i64 (k : Int)) := Bf2.out.1.2 0 (by simp)
  have x2f1 : W2.cell? ⟨(w.heap.size + 1), 1, none⟩ = some (.int .i64 fp) := Bf2.out.1.2 1 (by simp)
  have x2f2 : W2.cell? ⟨(w.heap.size + 1), 2, none⟩ = some (.int .i64 (a : Int)) := Bf2.out.1.2 2 (by simp)
  go_upto_region 6 with fail
  have hph6 : fp = 0 ∨ fp = 1 ∨ fp = 2 ∨ fp = 3 ∨ fp = 4 ∨ fp = 5 := by omega
  clear hph
  rcases hph6 with rfl | rfl | rfl | rfl | rfl | rfl
  · have HHs := hid (show stepH hs ds ⟨(k : Int), 0, (a : Int)⟩ = hs by simp [stepH])
    have HDs := hid (show stepD ds ⟨(k : Int), 0, (a : Int)⟩ = ds by simp [stepD])
    have HNv := hid (show stepN hs ds ⟨(k : Int), 0, (a : Int)⟩ = -1 by simp [stepN])
    have x2d1 := X2d1.out
    by_cases hq : D.status_ = 0
    · have HF := hid (show stepF hs ds ⟨(k : Int), 0, (a : Int)⟩ = ⟨(k : Int), 1, 0⟩ by unfold stepF; dsimp only; rw [if_pos rfl, hcD.out, if_pos hq])
      have hq' : (D.status_ != 0) = false := by simp [hq]
      clear hq
      have y0 : W2.cell? ⟨w.heap.size + 1 + 1, 0, none⟩ = some (.int .i64 0) := Br2.out.1.2 0 (by simp)
      have z0 : W2.frozen? ⟨w.heap.size + 1 + 1, 0, none⟩ = false := Br2.out.2 0 (by simp)
      have y1 : W2.cell? ⟨w.heap.size + 1 + 1, 1, none⟩ = some (.int .i64 0) := Br2.out.1.2 1 (by simp)
      have z1 : W2.frozen? ⟨w.heap.size + 1 + 1, 1, none⟩ = false := Br2.out.2 1 (by simp)
      have y2 : W2.cell? ⟨w.heap.size + 1 + 1, 2, none⟩ = some (.int .i64 0) := Br2.out.1.2 2 (by simp)
      have z2 : W2.frozen? ⟨w.heap.size + 1 + 1, 2, none⟩ = false := Br2.out.2 2 (by simp)
      go_wp2_with fail
      refine wp_goto ?_
      simp only [Exit.inBlock, Exit.then]
      refine ⟨_, rfl, ?_⟩
      go_wp2_with ((try simp only [Exit.inBlock, Exit.then, Exit.noGoto]); (with_reducible refine bodyPost_ret (v := .tuple #[.agg #[.int .i64 (k : Int), .int .i64 1, .int .i64 0], .int .i64 (-1)]) ?_ (by exact rfl) ?_); (simp [results, Tryz.results117, go_sem, y0, y1, y2, z0, z1, z2]); (exact ⟨by rw [HF.out, HNv.out], by rw [HHs.out, HDs.out]; exact fin3 O02.out O12.out C2.out hRr.out HS0.out HS1.out _ _ _⟩))
    · have HF := hid (show stepF hs ds ⟨(k : Int), 0, (a : Int)⟩ = ⟨(k : Int), 4, 0⟩ by unfold stepF; dsimp only; rw [if_pos rfl, hcD.out, if_neg hq])
      have hq' : (D.status_ != 0) = true := by simp [hq]
      clear hq
      have y0 : W2.cell? ⟨w.heap.size + 1 + 1, 0, none⟩ = some (.int .i64 0) := Br2.out.1.2 0 (by simp)
      have z0 : W2.frozen? ⟨w.heap.size + 1 + 1, 0, none⟩ = false := Br2.out.2 0 (by simp)
      have y1 : W2.cell? ⟨w.heap.size + 1 + 1, 1, none⟩ = some (.int .i64 0) := Br2.out.1.2 1 (by simp)
      have z1 : W2.frozen? ⟨w.heap.size + 1 + 1, 1, none⟩ = false := Br2.out.2 1 (by simp)
      have y2 : W2.cell? ⟨w.heap.size + 1 + 1, 2, none⟩ = some (.int .i64 0) := Br2.out.1.2 2 (by simp)
      have z2 : W2.frozen? ⟨w.heap.size + 1 + 1, 2, none⟩ = false := Br2.out.2 2 (by simp)
      go_wp2_with fail
      refine wp_goto ?_
      simp only [Exit.inBlock, Exit.then]
      refine ⟨_, rfl, ?_⟩
      go_wp2_with ((try simp only [Exit.inBlock, Exit.then, Exit.noGoto]); (with_reducible refine bodyPost_ret (v := .tuple #[.agg #[.int .i64 (k : Int), .int .i64 4, .int .i64 0], .int .i64 (-1)]) ?_ (by exact rfl) ?_); (simp [results, Tryz.results117, go_sem, y0, y1, y2, z0, z1, z2]); (exact ⟨by rw [HF.out, HNv.out], by rw [HHs.out, HDs.out]; exact fin3 O02.out O12.out C2.out hRr.out HS0.out HS1.out _ _ _⟩))
  · have HDs := hid (show stepD ds ⟨(k : Int), 1, (a : Int)⟩ = ds by simp [stepD])
    have hgs0 : g0 < W2.heap.size := Nat.lt_of_lt_of_le Hg.out.1 C2.out.size
    have hgs1 : g1 < W2.heap.size := Nat.lt_of_lt_of_le Hg.out.2 C2.out.size
    have hws : w.heap.size + 1 < W2.heap.size := Bf2.out.1.1
    have x2h2 := X2h2.out
    have x2h1 := X2h1.out
    have x2e1 : W2.cell? ⟨W1.heap.size, 1, none⟩ = some (.int .i64 E.version_) := Be2.out.1.2 1 (by simp)
    by_cases hq : H.desc_ = (k : Int)
    · have hq1 : (H.desc_ != (k : Int)) = false := by simp [hq]
      have hq2 : (H.desc_ == -1) = false := by rw [beq_eq_false_iff_ne]; omega
      have hset : Hid (hs.set ob (layH (k : Int) H) = hs) := by
        have h9 : layH (k : Int) H = hs[ob] := by rw [hHH.out]; unfold layH; rw [← hq]
        rw [h9]; exact hid (List.set_getElem_self hoh)
      have HHs := hid (show stepH hs ds ⟨(k : Int), 1, (a : Int)⟩ = hs.set ob (layH (k : Int) H) by rw [hset.out]; unfold stepH; dsimp only; rw [if_pos rfl, hcH.out, if_neg (fun h => h.1 hq)])
      have HNv := hid (show stepN hs ds ⟨(k : Int), 1, (a : Int)⟩ = -1 by unfold stepN; dsimp only; rw [hcH.out, if_neg (fun h => h.2.1 hq)])
      have HF := hid (show stepF hs ds ⟨(k : Int), 1, (a : Int)⟩ = nextF ds ⟨(k : Int), 1, (a : Int)⟩ 2 by unfold stepF; dsimp only; rw [if_neg (by decide), if_pos rfl, hcH.out, if_pos hq])
      clear hq
      go_wp2_with fail
      have y1 := Ext.cell hgs0 x2h2
      have y2 := Ext.cell hws x2f0
      refine wp_region_ext W2 (Below.refl _ _) (by kernel_rfl) (by kernel_rfl) ?_
      repeat (go_big_quiet_step (fail))
      refine wpQuiet_nil ?_
      rintro _ ⟨E, rfl⟩
      obtain ⟨X3, hX3⟩ : ∃ X, X = E.w := ⟨_, rfl⟩
      have bX3 : Below W2.heap.size W2 X3 := by rw [hX3]; exact E.h
      rw [← hX3]
      clear y1 y2 hX3 E
      have Bs3 := hid (Bs2.out.below bX3)
      have Bf3 := hid (Bf2.out.below bX3)
      have Br3 := hid (Br2.out.below bX3)
      have Be3 := hid (Be2.out.below bX3)
      have O03 := hid (O02.out.keep (w' := X3) fun b hb => bX3.block b (Nat.lt_of_lt_of_le (HS0.out b hb) C2.out.size))
      have O13 := hid (O12.out.keep (w' := X3) fun b hb => bX3.block b (Nat.lt_of_lt_of_le (HS1.out b hb) C2.out.size))
      have C3 := hid (C2.out.trans (ChgS.of_below bX3 _))
      have x3h0 := (bX3.cell (p := ⟨g0, ob * 3, none⟩) hgs0).trans X2h0.out
      have z3h0 := (bX3.frozen (p := ⟨g0, ob * 3, none⟩) hgs0).trans Z2h0.out
      have x3h1 := (bX3.cell (p := ⟨g0, ob * 3 + 1, none⟩) hgs0).trans X2h1.out
      have z3h1 := (bX3.frozen (p := ⟨g0, ob * 3 + 1, none⟩) hgs0).trans Z2h1.out
      have x3h2 := (bX3.cell (p := ⟨g0, ob * 3 + 2, none⟩) hgs0).trans X2h2.out
      have z3h2 := (bX3.frozen (p := ⟨g0, ob * 3 + 2, none⟩) hgs0).trans Z2h2.out
      have x3d1 := (bX3.cell (p := ⟨g1, k * 3 + 1, none⟩) hgs1).trans X2d1.out
      have x3d2 := (bX3.cell (p := ⟨g1, k * 3 + 2, none⟩) hgs1).trans X2d2.out
      have z3d1 := (bX3.frozen (p := ⟨g1, k * 3 + 1, none⟩) hgs1).trans Z2d1.out
      have hg3 : g0 < X3.heap.size := Nat.lt_of_lt_of_le hgs0 bX3.size
      go_wp2_with fail
      have y1 := Ext.cell hg3 x3h2
      refine wp_region_ext X3 (Below.refl _ _) (by kernel_rfl) (by kernel_rfl) ?_
      repeat (go_big_quiet_step (fail))
      refine wpQuiet_nil ?_
      rintro _ ⟨E, rfl⟩
      obtain ⟨X4, hX4⟩ : ∃ X, X = E.w := ⟨_, rfl⟩
      have bX4 : Below X3.heap.size X3 X4 := by rw [hX4]; exact E.h
      rw [← hX4]
      clear y1 hX4 E
      have bX5 := bX3.trans (bX4.mono bX3.size)
      have Bs4 := hid (Bs2.out.below bX5)
      have Bf4 := hid (Bf2.out.below bX5)
      have Br4 := hid (Br2.out.below bX5)
      have Be4 := hid (Be2.out.below bX5)
      have O04 := hid (O02.out.keep (w' := X4) fun b hb => bX5.block b (Nat.lt_of_lt_of_le (HS0.out b hb) C2.out.size))
      have O14 := hid (O12.out.keep (w' := X4) fun b hb => bX5.block b (Nat.lt_of_lt_of_le (HS1.out b hb) C2.out.size))
      have C4 := hid (C2.out.trans (ChgS.of_below bX5 _))
      have x4h0 := (bX5.cell (p := ⟨g0, ob * 3, none⟩) hgs0).trans X2h0.out
      have z4h0 := (bX5.frozen (p := ⟨g0, ob * 3, none⟩) hgs0).trans Z2h0.out
      have x4h1 := (bX5.cell (p := ⟨g0, ob * 3 + 1, none⟩) hgs0).trans X2h1.out
      have z4h1 := (bX5.frozen (p := ⟨g0, ob * 3 + 1, none⟩) hgs0).trans Z2h1.out
      have x4h2 := (bX5.cell (p := ⟨g0, ob * 3 + 2, none⟩) hgs0).trans X2h2.out
      have z4h2 := (bX5.frozen (p := ⟨g0, ob * 3 + 2, none⟩) hgs0).trans Z2h2.out
      have x4d1 := (bX5.cell (p := ⟨g1, k * 3 + 1, none⟩) hgs1).trans X2d1.out
      have x4d2 := (bX5.cell (p := ⟨g1, k * 3 + 2, none⟩) hgs1).trans X2d2.out
      have z4d1 := (bX5.frozen (p := ⟨g1, k * 3 + 1, none⟩) hgs1).trans Z2d1.out
      have x4f0 : X4.cell? ⟨w.heap.size + 1, 0, none⟩ = some (.int .i64 (k : Int)) := Bf4.out.1.2 0 (by simp)
      have x4f1 : X4.cell? ⟨w.heap.size + 1, 1, none⟩ = some (.int .i64 1) := Bf4.out.1.2 1 (by simp)
      have x4f2 : X4.cell? ⟨w.heap.size + 1, 2, none⟩ = some (.int .i64 (a : Int)) := Bf4.out.1.2 2 (by simp)
      obtain ⟨W5, hW5⟩ : ∃ X, X4.setCell ⟨g0, ob * 3 + 2, none⟩ (.int .i64 (k : Int)) = X := ⟨_, rfl⟩
      have Bs5 := Bs4.out.other ⟨g0, ob * 3 + 2, none⟩ (.int .i64 (k : Int)) (by have h8 := Hg.out; have h9 := HN.out; show g0 ≠ w.heap.size; omega); rw [hW5] at Bs5; replace Bs5 := hid Bs5
      have Bf5 := Bf4.out.other ⟨g0, ob * 3 + 2, none⟩ (.int .i64 (k : Int)) (by have h8 := Hg.out; have h9 := HN.out; show g0 ≠ w.heap.size + 1; omega); rw [hW5] at Bf5; replace Bf5 := hid Bf5
      have Br5 := Br4.out.other ⟨g0, ob * 3 + 2, none⟩ (.int .i64 (k : Int)) (by have h8 := Hg.out; have h9 := HN.out; show g0 ≠ w.heap.size + 1 + 1; omega); rw [hW5] at Br5; replace Br5 := hid Br5
      have Be5 := Be4.out.other ⟨g0, ob * 3 + 2, none⟩ (.int .i64 (k : Int)) (by have h8 := Hg.out; have h9 := HN.out; show g0 ≠ W1.heap.size; omega); rw [hW5] at Be5; replace Be5 := hid Be5
      have O05 : Hid (ownL S0 W5 (Value.slice (some ⟨g0, 0, none⟩) hs.length cap0) (hs.set ob (layH (k : Int) H))) := by rw [← hW5]; exact hid (own_head_set O04.out ob hoh 2 (by omega) _ _ (by rw [hHH.out]; rfl))
      have O15 : Hid (ownL S1 W5 (Value.slice (some ⟨g1, 0, none⟩) ds.length cap1) ds) := by rw [← hW5]; exact hid (own_set O14.out (fun b hb e => hdj b (by rw [e]; exact hg0) hb))
      have C5 : Hid (ChgS (fun b => S0 b ∨ S1 b) w W5) := by rw [← hW5]; exact hid (C4.out.set _ _ (.inl hg0))
      have x5d2 : W5.cell? ⟨g1, k * 3 + 2, none⟩ = some (Value.slice (some ⟨be, off, none⟩) n ecap) := by rw [← hW5, World.cell?_setCell_other _ _ _ _ (by intro e; exact hg01 (congrArg Addr.block e))]; exact x4d2
      have x5f0 : W5.cell? ⟨w.heap.size + 1, 0, none⟩ = some (.int .i64 (k : Int)) := Bf5.out.1.2 0 (by simp)
      have x5f1 : W5.cell? ⟨w.heap.size + 1, 1, none⟩ = some (.int .i64 1) := Bf5.out.1.2 1 (by simp)
      have x5f2 : W5.cell? ⟨w.heap.size + 1, 2, none⟩ = some (.int .i64 (a : Int)) := Bf5.out.1.2 2 (by simp)
      go_wp2_with fail
      refine (impl_behind g1 (k * 3) _ n _ a _ x5d2 (by omega) (by omega) ha).mono ?_
      rintro e w9 ⟨rfl, rfl⟩
      by_cases hb : a + 1 < n
      · have hbc : behindC a n = (a : Int) + 1 := if_pos hb
        have hbz : ((a : Int) + 1 == 0) = false := by rw [beq_eq_false_iff_ne]; omega
        have HF2 := hid (show nextF ds ⟨(k : Int), 1, (a : Int)⟩ 2 = ⟨(k : Int), 1, (a : Int) + 1⟩ by unfold nextF; dsimp only; rw [entsAt_eq hk, hn.out, if_pos (by omega)])
        rw [hbc]
        clear hb hbc
        have y0 : W5.cell? ⟨w.heap.size + 1 + 1, 0, none⟩ = some (.int .i64 0) := Br5.out.1.2 0 (by simp)
        have z0 : W5.frozen? ⟨w.heap.size + 1 + 1, 0, none⟩ = false := Br5.out.2 0 (by simp)
        have y1 : W5.cell? ⟨w.heap.size + 1 + 1, 1, none⟩ = some (.int .i64 0) := Br5.out.1.2 1 (by simp)
        have z1 : W5.frozen? ⟨w.heap.size + 1 + 1, 1, none⟩ = false := Br5.out.2 1 (by simp)
        have y2 : W5.cell? ⟨w.heap.size + 1 + 1, 2, none⟩ = some (.int .i64 0) := Br5.out.1.2 2 (by simp)
        have z2 : W5.frozen? ⟨w.heap.size + 1 + 1, 2, none⟩ = false := Br5.out.2 2 (by simp)
        go_wp2_with fail
        refine wp_goto ?_
        simp only [Exit.inBlock, Exit.then]
        refine ⟨_, rfl, ?_⟩
        go_wp2_with ((try simp only [Exit.inBlock, Exit.then, Exit.noGoto]); (with_reducible refine bodyPost_ret (v := .tuple #[.agg #[.int .i64 (k : Int), .int .i64 1, .int .i64 ((a : Int) + 1)], .int .i64 (-1)]) ?_ (by exact rfl) ?_); (simp [results, Tryz.results117, go_sem, y0, y1, y2, z0, z1, z2]); (exact ⟨by rw [HF.out, HNv.out, HF2.out], by rw [HHs.out, HDs.out]; exact fin3 O05.out O15.out C5.out hRr.out HS0.out HS1.out _ _ _⟩))
      · have hbc : behindC a n = 0 := if_neg hb
        have HF2 := hid (show nextF ds ⟨(k : Int), 1, (a : Int)⟩ 2 = ⟨(k : Int), 2, 0⟩ by unfold nextF; dsimp only; rw [entsAt_eq hk, hn.out, if_neg (by omega)])
        rw [hbc]
        clear hb hbc
        have y0 : W5.cell? ⟨w.heap.size + 1 + 1, 0, none⟩ = some (.int .i64 0) := Br5.out.1.2 0 (by simp)
        have z0 : W5.frozen? ⟨w.heap.size + 1 + 1, 0, none⟩ = false := Br5.out.2 0 (by simp)
        have y1 : W5.cell? ⟨w.heap.size + 1 + 1, 1, none⟩ = some (.int .i64 0) := Br5.out.1.2 1 (by simp)
        have z1 : W5.frozen? ⟨w.heap.size + 1 + 1, 1, none⟩ = false := Br5.out.2 1 (by simp)
        have y2 : W5.cell? ⟨w.heap.size + 1 + 1, 2, none⟩ = some (.int .i64 0) := Br5.out.1.2 2 (by simp)
        have z2 : W5.frozen? ⟨w.heap.size + 1 + 1, 2, none⟩ = false := Br5.out.2 2 (by simp)
        go_wp2_with fail
        refine wp_goto ?_
        simp only [Exit.inBlock, Exit.then]
        refine ⟨_, rfl, ?_⟩
        go_wp2_with ((try simp only [Exit.inBlock, Exit.then, Exit.noGoto]); (with_reducible refine bodyPost_ret (v := .tuple #[.agg #[.int .i64 (k : Int), .int .i64 2, .int .i64 0], .int .i64 (-1)]) ?_ (by exact rfl) ?_); (simp [results, Tryz.results117, go_sem, y0, y1, y2, z0, z1, z2]); (exact ⟨by rw [HF.out, HNv.out, HF2.out], by rw [HHs.out, HDs.out]; exact fin3 O05.out O15.out C5.out hRr.out HS0.out HS1.out _ _ _⟩))
    have hq1 : (H.desc_ != (k : Int)) = true := by simp [hq]
    by_cases hq2 : 0 ≤ H.desc_
    · have hq3 : (H.desc_ != -1) = true := by simp; omega
      have HHs := hid (show stepH hs ds ⟨(k : Int), 1, (a : Int)⟩ = hs by unfold stepH; dsimp only; rw [if_pos rfl, hcH.out, if_neg (fun h => h.2.1 hq2)])
      have HNv := hid (show stepN hs ds ⟨(k : Int), 1, (a : Int)⟩ = H.desc_ by unfold stepN; dsimp only; rw [hcH.out, if_pos ⟨rfl, hq, hq2⟩])
      have HF := hid (show stepF hs ds ⟨(k : Int), 1, (a : Int)⟩ = ⟨(k : Int), 0, 0⟩ by unfold stepF; dsimp only; rw [if_neg (by decide), if_pos rfl, hcH.out, if_neg hq, if_pos hq2])
      clear hq hq2
      go_wp2_with fail
      have y1 := Ext.cell hgs0 x2h2
      have y2 := Ext.cell hws x2f0
      refine wp_region_ext W2 (Below.refl _ _) (by kernel_rfl) (by kernel_rfl) ?_
      repeat (go_big_quiet_step (fail))
      refine wpQuiet_nil ?_
      rintro _ ⟨E, rfl⟩
      obtain ⟨X3, hX3⟩ : ∃ X, X = E.w := ⟨_, rfl⟩
      have bX3 : Below W2.heap.size W2 X3 := by rw [hX3]; exact E.h
      rw [← hX3]
      clear y1 y2 hX3 E
      have Bs3 := hid (Bs2.out.below bX3)
      have Bf3 := hid (Bf2.out.below bX3)
      have Br3 := hid (Br2.out.below bX3)
      have Be3 := hid (Be2.out.below bX3)
      have O03 := hid (O02.out.keep (w' := X3) fun b hb => bX3.block b (Nat.lt_of_lt_of_le (HS0.out b hb) C2.out.size))
      have O13 := hid (O12.out.keep (w' := X3) fun b hb => bX3.block b (Nat.lt_of_lt_of_le (HS1.out b hb) C2.out.size))
      have C3 := hid (C2.out.trans (ChgS.of_below bX3 _))
      have x3h0 := (bX3.cell (p := ⟨g0, ob * 3, none⟩) hgs0).trans X2h0.out
      have z3h0 := (bX3.frozen (p := ⟨g0, ob * 3, none⟩) hgs0).trans Z2h0.out
      have x3h1 := (bX3.cell (p := ⟨g0, ob * 3 + 1, none⟩) hgs0).trans X2h1.out
      have z3h1 := (bX3.frozen (p := ⟨g0, ob * 3 + 1, none⟩) hgs0).trans Z2h1.out
      have x3h2 := (bX3.cell (p := ⟨g0, ob * 3 + 2, none⟩) hgs0).trans X2h2.out
      have z3h2 := (bX3.frozen (p := ⟨g0, ob * 3 + 2, none⟩) hgs0).trans Z2h2.out
      have x3d1 := (bX3.cell (p := ⟨g1, k * 3 + 1, none⟩) hgs1).trans X2d1.out
      have x3d2 := (bX3.cell (p := ⟨g1, k * 3 + 2, none⟩) hgs1).trans X2d2.out
      have z3d1 := (bX3.frozen (p := ⟨g1, k * 3 + 1, none⟩) hgs1).trans Z2d1.out
      have x3f0 : X3.cell? ⟨w.heap.size + 1, 0, none⟩ = some (.int .i64 (k : Int)) := Bf3.out.1.2 0 (by simp)
      have x3f1 : X3.cell? ⟨w.heap.size + 1, 1, none⟩ = some (.int .i64 1) := Bf3.out.1.2 1 (by simp)
      have x3f2 : X3.cell? ⟨w.heap.size + 1, 2, none⟩ = some (.int .i64 (a : Int)) := Bf3.out.1.2 2 (by simp)
      have y0 : X3.cell? ⟨w.heap.size + 1 + 1, 0, none⟩ = some (.int .i64 0) := Br3.out.1.2 0 (by simp)
      have z0 : X3.frozen? ⟨w.heap.size + 1 + 1, 0, none⟩ = false := Br3.out.2 0 (by simp)
      have y1 : X3.cell? ⟨w.heap.size + 1 + 1, 1, none⟩ = some (.int .i64 0) := Br3.out.1.2 1 (by simp)
      have z1 : X3.frozen? ⟨w.heap.size + 1 + 1, 1, none⟩ = false := Br3.out.2 1 (by simp)
      have y2 : X3.cell? ⟨w.heap.size + 1 + 1, 2, none⟩ = some (.int .i64 0) := Br3.out.1.2 2 (by simp)
      have z2 : X3.frozen? ⟨w.heap.size + 1 + 1, 2, none⟩ = false := Br3.out.2 2 (by simp)
      go_wp2_with fail
      refine wp_goto ?_
      simp only [Exit.inBlock, Exit.then]
      refine ⟨_, rfl, ?_⟩
      go_wp2_with ((try simp only [Exit.inBlock, Exit.then, Exit.noGoto]); (with_reducible refine bodyPost_ret (v := .tuple #[.agg #[.int .i64 (k : Int), .int .i64 0, .int .i64 0], .int .i64 (H.desc_)]) ?_ (by exact rfl) ?_); (simp [results, Tryz.results117, go_sem, y0, y1, y2, z0, z1, z2]); (exact ⟨by rw [HF.out, HNv.out], by rw [HHs.out, HDs.out]; exact fin3 O03.out O13.out C3.out hRr.out HS0.out HS1.out _ _ _⟩))
    have hqd : H.desc_ = -1 := by omega
    have hq3 : (H.desc_ != -1) = false := by simp [hqd]
    have hq4 : (H.desc_ == -1) = true := by simp [hqd]
    by_cases hv : H.version_ = E.version_
    · have hv' : (H.version_ != E.version_) = false := by simp [hv]
      have HHs := hid (show stepH hs ds ⟨(k : Int), 1, (a : Int)⟩ = hs.set ob (layH (k : Int) H) by unfold stepH; dsimp only; rw [if_pos rfl, hcH.out, hcE.out, if_pos ⟨hq, hq2, hv⟩, hcO.out, Int.toNat_natCast])
      have HF := hid (show stepF hs ds ⟨(k : Int), 1, (a : Int)⟩ = nextF ds ⟨(k : Int), 1, (a : Int)⟩ 2 by unfold stepF; dsimp only; rw [if_neg (by decide), if_pos rfl, hcH.out, hcE.out, if_neg hq, if_neg hq2, if_pos hv])
      have HNv := hid (show stepN hs ds ⟨(k : Int), 1, (a : Int)⟩ = -1 by unfold stepN; dsimp only; rw [hcH.out, if_neg (fun h => hq2 h.2.2)])
      clear hq hq2 hv hqd
      go_wp2_with fail
      have y1 := Ext.cell hgs0 x2h2
      have y2 := Ext.cell hws x2f0
      refine wp_region_ext W2 (Below.refl _ _) (by kernel_rfl) (by kernel_rfl) ?_
      repeat (go_big_quiet_step (fail))
      refine wpQuiet_nil ?_
      rintro _ ⟨E, rfl⟩
      obtain ⟨X3, hX3⟩ : ∃ X, X = E.w := ⟨_, rfl⟩
      have bX3 : Below W2.heap.size W2 X3 := by rw [hX3]; exact E.h
      rw [← hX3]
      clear y1 y2 hX3 E
      have Bs3 := hid (Bs2.out.below bX3)
      have Bf3 := hid (Bf2.out.below bX3)
      have Br3 := hid (Br2.out.below bX3)
      have Be3 := hid (Be2.out.below bX3)
      have O03 := hid (O02.out.keep (w' := X3) fun b hb => bX3.block b (Nat.lt_of_lt_of_le (HS0.out b hb) C2.out.size))
      have O13 := hid (O12.out.keep (w' := X3) fun b hb => bX3.block b (Nat.lt_of_lt_of_le (HS1.out b hb) C2.out.size))
      have C3 := hid (C2.out.trans (ChgS.of_below bX3 _))
      have x3h0 := (bX3.cell (p := ⟨g0, ob * 3, none⟩) hgs0).trans X2h0.out
      have z3h0 := (bX3.frozen (p := ⟨g0, ob * 3, none⟩) hgs0).trans Z2h0.out
      have x3h1 := (bX3.cell (p := ⟨g0, ob * 3 + 1, none⟩) hgs0).trans X2h1.out
      have z3h1 := (bX3.frozen (p := ⟨g0, ob * 3 + 1, none⟩) hgs0).trans Z2h1.out
      have x3h2 := (bX3.cell (p := ⟨g0, ob * 3 + 2, none⟩) hgs0).trans X2h2.out
      have z3h2 := (bX3.frozen (p := ⟨g0, ob * 3 + 2, none⟩) hgs0).trans Z2h2.out
      have x3d1 := (bX3.cell (p := ⟨g1, k * 3 + 1, none⟩) hgs1).trans X2d1.out
      have x3d2 := (bX3.cell (p := ⟨g1, k * 3 + 2, none⟩) hgs1).trans X2d2.out
      have z3d1 := (bX3.frozen (p := ⟨g1, k * 3 + 1, none⟩) hgs1).trans Z2d1.out
      have hg3 : g0 < X3.heap.size := Nat.lt_of_lt_of_le hgs0 bX3.size
      have hw3 : W1.heap.size < X3.heap.size := Be3.out.1.1
      have x3e1 : X3.cell? ⟨W1.heap.size, 1, none⟩ = some (.int .i64 E.version_) := Be3.out.1.2 1 (by simp)
      go_wp2_with fail
      have y1 := Ext.cell hg3 x3h2
      have y2 := Ext.cell hg3 x3h1
      have y3 := Ext.cell hw3 x3e1
      refine wp_region_ext X3 (Below.refl _ _) (by kernel_rfl) (by kernel_rfl) ?_
      repeat (go_big_quiet_step (fail))
      refine wpQuiet_nil ?_
      rintro _ ⟨E, rfl⟩
      obtain ⟨X4, hX4⟩ : ∃ X, X = E.w := ⟨_, rfl⟩
      have bX4 : Below X3.heap.size X3 X4 := by rw [hX4]; exact E.h
      rw [← hX4]
      clear y1 y2 y3 hX4 E
      have bX5 := bX3.trans (bX4.mono bX3.size)
      have Bs4 := hid (Bs2.out.below bX5)
      have Bf4 := hid (Bf2.out.below bX5)
      have Br4 := hid (Br2.out.below bX5)
      have Be4 := hid (Be2.out.below bX5)
      have O04 := hid (O02.out.keep (w' := X4) fun b hb => bX5.block b (Nat.lt_of_lt_of_le (HS0.out b hb) C2.out.size))
      have O14 := hid (O12.out.keep (w' := X4) fun b hb => bX5.block b (Nat.lt_of_lt_of_le (HS1.out b hb) C2.out.size))
      have C4 := hid (C2.out.trans (ChgS.of_below bX5 _))
      have x4h0 := (bX5.cell (p := ⟨g0, ob * 3, none⟩) hgs0).trans X2h0.out
      have z4h0 := (bX5.frozen (p := ⟨g0, ob * 3, none⟩) hgs0).trans Z2h0.out
      have x4h1 := (bX5.cell (p := ⟨g0, ob * 3 + 1, none⟩) hgs0).trans X2h1.out
      have z4h1 := (bX5.frozen (p := ⟨g0, ob * 3 + 1, none⟩) hgs0).trans Z2h1.out
      have x4h2 := (bX5.cell (p := ⟨g0, ob * 3 + 2, none⟩) hgs0).trans X2h2.out
      have z4h2 := (bX5.frozen (p := ⟨g0, ob * 3 + 2, none⟩) hgs0).trans Z2h2.out
      have x4d1 := (bX5.cell (p := ⟨g1, k * 3 + 1, none⟩) hgs1).trans X2d1.out
      have x4d2 := (bX5.cell (p := ⟨g1, k * 3 + 2, none⟩) hgs1).trans X2d2.out
      have z4d1 := (bX5.frozen (p := ⟨g1, k * 3 + 1, none⟩) hgs1).trans Z2d1.out
      have x4f0 : X4.cell? ⟨w.heap.size + 1, 0, none⟩ = some (.int .i64 (k : Int)) := Bf4.out.1.2 0 (by simp)
      have x4f1 : X4.cell? ⟨w.heap.size + 1, 1, none⟩ = some (.int .i64 1) := Bf4.out.1.2 1 (by simp)
      have x4f2 : X4.cell? ⟨w.heap.size + 1, 2, none⟩ = some (.int .i64 (a : Int)) := Bf4.out.1.2 2 (by simp)
      obtain ⟨W5, hW5⟩ : ∃ X, X4.setCell ⟨g0, ob * 3 + 2, none⟩ (.int .i64 (k : Int)) = X := ⟨_, rfl⟩
      have Bs5 := Bs4.out.other ⟨g0, ob * 3 + 2, none⟩ (.int .i64 (k : Int)) (by have h8 := Hg.out; have h9 := HN.out; show g0 ≠ w.heap.size; omega); rw [hW5] at Bs5; replace Bs5 := hid Bs5
      have Bf5 := Bf4.out.other ⟨g0, ob * 3 + 2, none⟩ (.int .i64 (k : Int)) (by have h8 := Hg.out; have h9 := HN.out; show g0 ≠ w.heap.size + 1; omega); rw [hW5] at Bf5; replace Bf5 := hid Bf5
      have Br5 := Br4.out.other ⟨g0, ob * 3 + 2, none⟩ (.int .i64 (k : Int)) (by have h8 := Hg.out; have h9 := HN.out; show g0 ≠ w.heap.size + 1 + 1; omega); rw [hW5] at Br5; replace Br5 := hid Br5
      have Be5 := Be4.out.other ⟨g0, ob * 3 + 2, none⟩ (.int .i64 (k : Int)) (by have h8 := Hg.out; have h9 := HN.out; show g0 ≠ W1.heap.size; omega); rw [hW5] at Be5; replace Be5 := hid Be5
      have O05 : Hid (ownL S0 W5 (Value.slice (some ⟨g0, 0, none⟩) hs.length cap0) (hs.set ob (layH (k : Int) H))) := by rw [← hW5]; exact hid (own_head_set O04.out ob hoh 2 (by omega) _ _ (by rw [hHH.out]; rfl))
      have O15 : Hid (ownL S1 W5 (Value.slice (some ⟨g1, 0, none⟩) ds.length cap1) ds) := by rw [← hW5]; exact hid (own_set O14.out (fun b hb e => hdj b (by rw [e]; exact hg0) hb))
      have C5 : Hid (ChgS (fun b => S0 b ∨ S1 b) w W5) := by rw [← hW5]; exact hid (C4.out.set _ _ (.inl hg0))
      have x5d2 : W5.cell? ⟨g1, k * 3 + 2, none⟩ = some (Value.slice (some ⟨be, off, none⟩) n ecap) := by rw [← hW5, World.cell?_setCell_other _ _ _ _ (by intro e; exact hg01 (congrArg Addr.block e))]; exact x4d2
      have x5f0 : W5.cell? ⟨w.heap.size + 1, 0, none⟩ = some (.int .i64 (k : Int)) := Bf5.out.1.2 0 (by simp)
      have x5f1 : W5.cell? ⟨w.heap.size + 1, 1, none⟩ = some (.int .i64 1) := Bf5.out.1.2 1 (by simp)
      have x5f2 : W5.cell? ⟨w.heap.size + 1, 2, none⟩ = some (.int .i64 (a : Int)) := Bf5.out.1.2 2 (by simp)
      go_wp2_with fail
      refine (impl_behind g1 (k * 3) _ n _ a _ x5d2 (by omega) (by omega) ha).mono ?_
      rintro e w9 ⟨rfl, rfl⟩
      by_cases hb : a + 1 < n
      · have hbc : behindC a n = (a : Int) + 1 := if_pos hb
        have hbz : ((a : Int) + 1 == 0) = false := by rw [beq_eq_false_iff_ne]; omega
        have HF2 := hid (show nextF ds ⟨(k : Int), 1, (a : Int)⟩ 2 = ⟨(k : Int), 1, (a : Int) + 1⟩ by unfold nextF; dsimp only; rw [entsAt_eq hk, hn.out, if_pos (by omega)])
        rw [hbc]
        clear hb hbc
        have y0 : W5.cell? ⟨w.heap.size + 1 + 1, 0, none⟩ = some (.int .i64 0) := Br5.out.1.2 0 (by simp)
        have z0 : W5.frozen? ⟨w.heap.size + 1 + 1, 0, none⟩ = false := Br5.out.2 0 (by simp)
        have y1 : W5.cell? ⟨w.heap.size + 1 + 1, 1, none⟩ = some (.int .i64 0) := Br5.out.1.2 1 (by simp)
        have z1 : W5.frozen? ⟨w.heap.size + 1 + 1, 1, none⟩ = false := Br5.out.2 1 (by simp)
        have y2 : W5.cell? ⟨w.heap.size + 1 + 1, 2, none⟩ = some (.int .i64 0) := Br5.out.1.2 2 (by simp)
        have z2 : W5.frozen? ⟨w.heap.size + 1 + 1, 2, none⟩ = false := Br5.out.2 2 (by simp)
        go_wp2_with fail
        refine wp_goto ?_
        simp only [Exit.inBlock, Exit.then]
        refine ⟨_, rfl, ?_⟩
        go_wp2_with ((try simp only [Exit.inBlock, Exit.then, Exit.noGoto]); (with_reducible refine bodyPost_ret (v := .tuple #[.agg #[.int .i64 (k : Int), .int .i64 1, .int .i64 ((a : Int) + 1)], .int .i64 (-1)]) ?_ (by exact rfl) ?_); (simp [results, Tryz.results117, go_sem, y0, y1, y2, z0, z1, z2]); (exact ⟨by rw [HF.out, HNv.out, HF2.out], by rw [HHs.out, HDs.out]; exact fin3 O05.out O15.out C5.out hRr.out HS0.out HS1.out _ _ _⟩))
      · have hbc : behindC a n = 0 := if_neg hb
        have HF2 := hid (show nextF ds ⟨(k : Int), 1, (a : Int)⟩ 2 = ⟨(k : Int), 2, 0⟩ by unfold nextF; dsimp only; rw [entsAt_eq hk, hn.out, if_neg (by omega)])
        rw [hbc]
        clear hb hbc
        have y0 : W5.cell? ⟨w.heap.size + 1 + 1, 0, none⟩ = some (.int .i64 0) := Br5.out.1.2 0 (by simp)
        have z0 : W5.frozen? ⟨w.heap.size + 1 + 1, 0, none⟩ = false := Br5.out.2 0 (by simp)
        have y1 : W5.cell? ⟨w.heap.size + 1 + 1, 1, none⟩ = some (.int .i64 0) := Br5.out.1.2 1 (by simp)
        have z1 : W5.frozen? ⟨w.heap.size + 1 + 1, 1, none⟩ = false := Br5.out.2 1 (by simp)
        have y2 : W5.cell? ⟨w.heap.size + 1 + 1, 2, none⟩ = some (.int .i64 0) := Br5.out.1.2 2 (by simp)
        have z2 : W5.frozen? ⟨w.heap.size + 1 + 1, 2, none⟩ = false := Br5.out.2 2 (by simp)
        go_wp2_with fail
        refine wp_goto ?_
        simp only [Exit.inBlock, Exit.then]
        refine ⟨_, rfl, ?_⟩
        go_wp2_with ((try simp only [Exit.inBlock, Exit.then, Exit.noGoto]); (with_reducible refine bodyPost_ret (v := .tuple #[.agg #[.int .i64 (k : Int), .int .i64 2, .int .i64 0], .int .i64 (-1)]) ?_ (by exact rfl) ?_); (simp [results, Tryz.results117, go_sem, y0, y1, y2, z0, z1, z2]); (exact ⟨by rw [HF.out, HNv.out, HF2.out], by rw [HHs.out, HDs.out]; exact fin3 O05.out O15.out C5.out hRr.out HS0.out HS1.out _ _ _⟩))
    · have hv' : (H.version_ != E.version_) = true := by simp [hv]
      have HHs := hid (show stepH hs ds ⟨(k : Int), 1, (a : Int)⟩ = hs by unfold stepH; dsimp only; rw [if_pos rfl, hcH.out, hcE.out, if_neg (fun h => hv h.2.2)])
      have HF := hid (show stepF hs ds ⟨(k : Int), 1, (a : Int)⟩ = ⟨(k : Int), 3, 0⟩ by unfold stepF; dsimp only; rw [if_neg (by decide), if_pos rfl, hcH.out, hcE.out, if_neg hq, if_neg hq2, if_neg hv])
      have HNv := hid (show stepN hs ds ⟨(k : Int), 1, (a : Int)⟩ = -1 by unfold stepN; dsimp only; rw [hcH.out, if_neg (fun h => hq2 h.2.2)])
      clear hq hq2 hv hqd
      go_wp2_with fail
      have y1 := Ext.cell hgs0 x2h2
      have y2 := Ext.cell hws x2f0
      refine wp_region_ext W2 (Below.refl _ _) (by kernel_rfl) (by kernel_rfl) ?_
      repeat (go_big_quiet_step (fail))
      refine wpQuiet_nil ?_
      rintro _ ⟨E, rfl⟩
      obtain ⟨X3, hX3⟩ : ∃ X, X = E.w := ⟨_, rfl⟩
      have bX3 : Below W2.heap.size W2 X3 := by rw [hX3]; exact E.h
      rw [← hX3]
      clear y1 y2 hX3 E
      have Bs3 := hid (Bs2.out.below bX3)
      have Bf3 := hid (Bf2.out.below bX3)
      have Br3 := hid (Br2.out.below bX3)
      have Be3 := hid (Be2.out.below bX3)
      have O03 := hid (O02.out.keep (w' := X3) fun b hb => bX3.block b (Nat.lt_of_lt_of_le (HS0.out b hb) C2.out.size))
      have O13 := hid (O12.out.keep (w' := X3) fun b hb => bX3.block b (Nat.lt_of_lt_of_le (HS1.out b hb) C2.out.size))
      have C3 := hid (C2.out.trans (ChgS.of_below bX3 _))
      have x3h0 := (bX3.cell (p := ⟨g0, ob * 3, none⟩) hgs0).trans X2h0.out
      have z3h0 := (bX3.frozen (p := ⟨g0, ob * 3, none⟩) hgs0).trans Z2h0.out
      have x3h1 := (bX3.cell (p := ⟨g0, ob * 3 + 1, none⟩) hgs0).trans X2h1.out
      have z3h1 := (bX3.frozen (p := ⟨g0, ob * 3 + 1, none⟩) hgs0).trans Z2h1.out
      have x3h2 := (bX3.cell (p := ⟨g0, ob * 3 + 2, none⟩) hgs0).trans X2h2.out
      have z3h2 := (bX3.frozen (p := ⟨g0, ob * 3 + 2, none⟩) hgs0).trans Z2h2.out
      have x3d1 := (bX3.cell (p := ⟨g1, k * 3 + 1, none⟩) hgs1).trans X2d1.out
      have x3d2 := (bX3.cell (p := ⟨g1, k * 3 + 2, none⟩) hgs1).trans X2d2.out
      have z3d1 := (bX3.frozen (p := ⟨g1, k * 3 + 1, none⟩) hgs1).trans Z2d1.out
      have hg3 : g0 < X3.heap.size := Nat.lt_of_lt_of_le hgs0 bX3.size
      have hw3 : W1.heap.size < X3.heap.size := Be3.out.1.1
      have x3e1 : X3.cell? ⟨W1.heap.size, 1, none⟩ = some (.int .i64 E.version_) := Be3.out.1.2 1 (by simp)
      go_wp2_with fail
      have y1 := Ext.cell hg3 x3h2
      have y2 := Ext.cell hg3 x3h1
      have y3 := Ext.cell hw3 x3e1
      refine wp_region_ext X3 (Below.refl _ _) (by kernel_rfl) (by kernel_rfl) ?_
      repeat (go_big_quiet_step (fail))
      refine wpQuiet_nil ?_
      rintro _ ⟨E, rfl⟩
      obtain ⟨X4, hX4⟩ : ∃ X, X = E.w := ⟨_, rfl⟩
      have bX4 : Below X3.heap.size X3 X4 := by rw [hX4]; exact E.h
      rw [← hX4]
      clear y1 y2 y3 hX4 E
      have bX5 := bX3.trans (bX4.mono bX3.size)
      have Bs4 := hid (Bs2.out.below bX5)
      have Bf4 := hid (Bf2.out.below bX5)
      have Br4 := hid (Br2.out.below bX5)
      have Be4 := hid (Be2.out.below bX5)
      have O04 := hid (O02.out.keep (w' := X4) fun b hb => bX5.block b (Nat.lt_of_lt_of_le (HS0.out b hb) C2.out.size))
      have O14 := hid (O12.out.keep (w' := X4) fun b hb => bX5.block b (Nat.lt_of_lt_of_le (HS1.out b hb) C2.out.size))
      have C4 := hid (C2.out.trans (ChgS.of_below bX5 _))
      have x4h0 := (bX5.cell (p := ⟨g0, ob * 3, none⟩) hgs0).trans X2h0.out
      have z4h0 := (bX5.frozen (p := ⟨g0, ob * 3, none⟩) hgs0).trans Z2h0.out
      have x4h1 := (bX5.cell (p := ⟨g0, ob * 3 + 1, none⟩) hgs0).trans X2h1.out
      have z4h1 := (bX5.frozen (p := ⟨g0, ob * 3 + 1, none⟩) hgs0).trans Z2h1.out
      have x4h2 := (bX5.cell (p := ⟨g0, ob * 3 + 2, none⟩) hgs0).trans X2h2.out
      have z4h2 := (bX5.frozen (p := ⟨g0, ob * 3 + 2, none⟩) hgs0).trans Z2h2.out
      have x4d1 := (bX5.cell (p := ⟨g1, k * 3 + 1, none⟩) hgs1).trans X2d1.out
      have x4d2 := (bX5.cell (p := ⟨g1, k * 3 + 2, none⟩) hgs1).trans X2d2.out
      have z4d1 := (bX5.frozen (p := ⟨g1, k * 3 + 1, none⟩) hgs1).trans Z2d1.out
      have x4f0 : X4.cell? ⟨w.heap.size + 1, 0, none⟩ = some (.int .i64 (k : Int)) := Bf4.out.1.2 0 (by simp)
      have x4f1 : X4.cell? ⟨w.heap.size + 1, 1, none⟩ = some (.int .i64 1) := Bf4.out.1.2 1 (by simp)
      have x4f2 : X4.cell? ⟨w.heap.size + 1, 2, none⟩ = some (.int .i64 (a : Int)) := Bf4.out.1.2 2 (by simp)
      have y0 : X4.cell? ⟨w.heap.size + 1 + 1, 0, none⟩ = some (.int .i64 0) := Br4.out.1.2 0 (by simp)
      have z0 : X4.frozen? ⟨w.heap.size + 1 + 1, 0, none⟩ = false := Br4.out.2 0 (by simp)
      have y1 : X4.cell? ⟨w.heap.size + 1 + 1, 1, none⟩ = some (.int .i64 0) := Br4.out.1.2 1 (by simp)
      have z1 : X4.frozen? ⟨w.heap.size + 1 + 1, 1, none⟩ = false := Br4.out.2 1 (by simp)
      have y2 : X4.cell? ⟨w.heap.size + 1 + 1, 2, none⟩ = some (.int .i64 0) := Br4.out.1.2 2 (by simp)
      have z2 : X4.frozen? ⟨w.heap.size + 1 + 1, 2, none⟩ = false := Br4.out.2 2 (by simp)
      go_wp2_with fail
      refine wp_goto ?_
      simp only [Exit.inBlock, Exit.then]
      refine ⟨_, rfl, ?_⟩
      go_wp2_with ((try simp only [Exit.inBlock, Exit.then, Exit.noGoto]); (with_reducible refine bodyPost_ret (v := .tuple #[.agg #[.int .i64 (k : Int), .int .i64 3, .int .i64 0], .int .i64 (-1)]) ?_ (by exact rfl) ?_); (simp [results, Tryz.results117, go_sem, y0, y1, y2, z0, z1, z2]); (exact ⟨by rw [HF.out, HNv.out], by rw [HHs.out, HDs.out]; exact fin3 O04.out O14.out C4.out hRr.out HS0.out HS1.out _ _ _⟩))
  · have HHs := hid (show stepH hs ds ⟨(k : Int), 2, (a : Int)⟩ = hs by simp [stepH])
    have HNv := hid (show stepN hs ds ⟨(k : Int), 2, (a : Int)⟩ = -1 by simp [stepN])
    have HF := hid (show stepF hs ds ⟨(k : Int), 2, (a : Int)⟩ = ⟨(k : Int), 4, 0⟩ by simp [stepF])
    have HD0 := hid (show stepD ds ⟨(k : Int), 2, (a : Int)⟩ = ds.set k (decD 1 D) by unfold stepD; dsimp only; rw [if_pos rfl, hcD.out, Int.toNat_natCast])
    by_cases hq : D.status_ = 0
    · have HDs := hid (show stepD ds ⟨(k : Int), 2, (a : Int)⟩ = ds.set k ⟨D.owner_, 1, D.entries_⟩ by rw [HD0.out]; unfold decD; rw [if_pos hq])
      have x2d1 : W2.cell? ⟨g1, k * 3 + 1, none⟩ = some (.int .i64 0) := by have h9 := X2d1.out; rw [hq] at h9; exact h9
      obtain ⟨W3, hW3⟩ : ∃ X, W2.setCell ⟨g1, k * 3 + 1, none⟩ (.int .i64 1) = X := ⟨_, rfl⟩
      have Bf3 := Bf2.out.other ⟨g1, k * 3 + 1, none⟩ (.int .i64 1) (by have h8 := Hg.out; have h9 := HN.out; show g1 ≠ w.heap.size + 1; omega); rw [hW3] at Bf3; replace Bf3 := hid Bf3
      have Br3 := Br2.out.other ⟨g1, k * 3 + 1, none⟩ (.int .i64 1) (by have h8 := Hg.out; have h9 := HN.out; show g1 ≠ w.heap.size + 1 + 1; omega); rw [hW3] at Br3; replace Br3 := hid Br3
      have O13 : Hid (ownL S1 W3 (Value.slice (some ⟨g1, 0, none⟩) ds.length cap1) (ds.set k ⟨D.owner_, 1, D.entries_⟩)) := by rw [← hW3]; exact hid (own_desc_set O12.out k hk 1 _ (by rw [hDD.out]))
      have O03 : Hid (ownL S0 W3 (Value.slice (some ⟨g0, 0, none⟩) hs.length cap0) hs) := by rw [← hW3]; exact hid (own_set O02.out (fun b hb e => hdj b hb (by rw [e]; exact hg1)))
      have C3 : Hid (ChgS (fun b => S0 b ∨ S1 b) w W3) := by rw [← hW3]; exact hid (C2.out.set _ _ (.inr hg1))
      have hW3' := hid hW3
      clear hq hW3
      go_wp2_with fail
      refine (impl_decideY g1 (k * 3) 1 _ x2d1 Z2d1.out).mono ?_
      rintro e w9 ⟨rfl, rfl⟩
      rw [hW3'.out]
      have x3f0 : W3.cell? ⟨w.heap.size + 1, 0, none⟩ = some (.int .i64 (k : Int)) := Bf3.out.1.2 0 (by simp)
      have x3f1 : W3.cell? ⟨w.heap.size + 1, 1, none⟩ = some (.int .i64 2) := Bf3.out.1.2 1 (by simp)
      have x3f2 : W3.cell? ⟨w.heap.size + 1, 2, none⟩ = some (.int .i64 (a : Int)) := Bf3.out.1.2 2 (by simp)
      have y0 : W3.cell? ⟨w.heap.size + 1 + 1, 0, none⟩ = some (.int .i64 0) := Br3.out.1.2 0 (by simp)
      have z0 : W3.frozen? ⟨w.heap.size + 1 + 1, 0, none⟩ = false := Br3.out.2 0 (by simp)
      have y1 : W3.cell? ⟨w.heap.size + 1 + 1, 1, none⟩ = some (.int .i64 0) := Br3.out.1.2 1 (by simp)
      have z1 : W3.frozen? ⟨w.heap.size + 1 + 1, 1, none⟩ = false := Br3.out.2 1 (by simp)
      have y2 : W3.cell? ⟨w.heap.size + 1 + 1, 2, none⟩ = some (.int .i64 0) := Br3.out.1.2 2 (by simp)
      have z2 : W3.frozen? ⟨w.heap.size + 1 + 1, 2, none⟩ = false := Br3.out.2 2 (by simp)
      go_wp2_with fail
      refine wp_goto ?_
      simp only [Exit.inBlock, Exit.then]
      refine ⟨_, rfl, ?_⟩
      go_wp2_with ((try simp only [Exit.inBlock, Exit.then, Exit.noGoto]); (with_reducible refine bodyPost_ret (v := .tuple #[.agg #[.int .i64 (k : Int), .int .i64 4, .int .i64 0], .int .i64 (-1)]) ?_ (by exact rfl) ?_); (simp [results, Tryz.results117, go_sem, y0, y1, y2, z0, z1, z2]); (exact ⟨by rw [HF.out, HNv.out], by rw [HHs.out, HDs.out]; exact fin3 O03.out O13.out C3.out hRr.out HS0.out HS1.out _ _ _⟩))
    · have HDs := hid (show stepD ds ⟨(k : Int), 2, (a : Int)⟩ = ds by rw [HD0.out]; unfold decD; rw [if_neg hq, ← hDD.out]; exact List.set_getElem_self hk)
      have x2d1 := X2d1.out
      go_wp2_with fail
      refine (impl_decideN g1 (k * 3) D.status_ 1 _ x2d1 hq).mono ?_
      rintro e w9 ⟨rfl, rfl⟩
      clear hq
      have y0 : w9.cell? ⟨w.heap.size + 1 + 1, 0, none⟩ = some (.int .i64 0) := Br2.out.1.2 0 (by simp)
      have z0 : w9.frozen? ⟨w.heap.size + 1 + 1, 0, none⟩ = false := Br2.out.2 0 (by simp)
      have y1 : w9.cell? ⟨w.heap.size + 1 + 1, 1, none⟩ = some (.int .i64 0) := Br2.out.1.2 1 (by simp)
      have z1 : w9.frozen? ⟨w.heap.size + 1 + 1, 1, none⟩ = false := Br2.out.2 1 (by simp)
      have y2 : w9.cell? ⟨w.heap.size + 1 + 1, 2, none⟩ = some (.int .i64 0) := Br2.out.1.2 2 (by simp)
      have z2 : w9.frozen? ⟨w.heap.size + 1 + 1, 2, none⟩ = false := Br2.out.2 2 (by simp)
      go_wp2_with fail
      refine wp_goto ?_
      simp only [Exit.inBlock, Exit.then]
      refine ⟨_, rfl, ?_⟩
      go_wp2_with ((try simp only [Exit.inBlock, Exit.then, Exit.noGoto]); (with_reducible refine bodyPost_ret (v := .tuple #[.agg #[.int .i64 (k : Int), .int .i64 4, .int .i64 0], .int .i64 (-1)]) ?_ (by exact rfl) ?_); (simp [results, Tryz.results117, go_sem, y0, y1, y2, z0, z1, z2]); (exact ⟨by rw [HF.out, HNv.out], by rw [HHs.out, HDs.out]; exact fin3 O02.out O12.out C2.out hRr.out HS0.out HS1.out _ _ _⟩))
  · have HHs := hid (show stepH hs ds ⟨(k : Int), 3, (a : Int)⟩ = hs by simp [stepH])
    have HNv := hid (show stepN hs ds ⟨(k : Int), 3, (a : Int)⟩ = -1 by simp [stepN])
    have HF := hid (show stepF hs ds ⟨(k : Int), 3, (a : Int)⟩ = ⟨(k : Int), 4, 0⟩ by simp [stepF])
    have HD0 := hid (show stepD ds ⟨(k : Int), 3, (a : Int)⟩ = ds.set k (decD 2 D) by unfold stepD; dsimp only; rw [if_neg (by decide), if_pos rfl, hcD.out, Int.toNat_natCast])
    by_cases hq : D.status_ = 0
    · have HDs := hid (show stepD ds ⟨(k : Int), 3, (a : Int)⟩ = ds.set k ⟨D.owner_, 2, D.entries_⟩ by rw [HD0.out]; unfold decD; rw [if_pos hq])
      have x2d1 : W2.cell? ⟨g1, k * 3 + 1, none⟩ = some (.int .i64 0) := by have h9 := X2d1.out; rw [hq] at h9; exact h9
      obtain ⟨W3, hW3⟩ : ∃ X, W2.setCell ⟨g1, k * 3 + 1, none⟩ (.int .i64 2) = X := ⟨_, rfl⟩
      have Bf3 := Bf2.out.other ⟨g1, k * 3 + 1, none⟩ (.int .i64 2) (by have h8 := Hg.out; have h9 := HN.out; show g1 ≠ w.heap.size + 1; omega); rw [hW3] at Bf3; replace Bf3 := hid Bf3
      have Br3 := Br2.out.other ⟨g1, k * 3 + 1, none⟩ (.int .i64 2) (by have h8 := Hg.out; have h9 := HN.out; show g1 ≠ w.heap.size + 1 + 1; omega); rw [hW3] at Br3; replace Br3 := hid Br3
      have O13 : Hid (ownL S1 W3 (Value.slice (some ⟨g1, 0, none⟩) ds.length cap1) (ds.set k ⟨D.owner_, 2, D.entries_⟩)) := by rw [← hW3]; exact hid (own_desc_set O12.out k hk 2 _ (by rw [hDD.out]))
      have O03 : Hid (ownL S0 W3 (Value.slice (some ⟨g0, 0, none⟩) hs.length cap0) hs) := by rw [← hW3]; exact hid (own_set O02.out (fun b hb e => hdj b hb (by rw [e]; exact hg1)))
      have C3 : Hid (ChgS (fun b => S0 b ∨ S1 b) w W3) := by rw [← hW3]; exact hid (C2.out.set _ _ (.inr hg1))
      have hW3' := hid hW3
      clear hq hW3
      go_wp2_with fail
      refine (impl_decideY g1 (k * 3) 2 _ x2d1 Z2d1.out).mono ?_
      rintro e w9 ⟨rfl, rfl⟩
      rw [hW3'.out]
      have x3f0 : W3.cell? ⟨w.heap.size + 1, 0, none⟩ = some (.int .i64 (k : Int)) := Bf3.out.1.2 0 (by simp)
      have x3f1 : W3.cell? ⟨w.heap.size + 1, 1, none⟩ = some (.int .i64 3) := Bf3.out.1.2 1 (by simp)
      have x3f2 : W3.cell? ⟨w.heap.size + 1, 2, none⟩ = some (.int .i64 (a : Int)) := Bf3.out.1.2 2 (by simp)
      have y0 : W3.cell? ⟨w.heap.size + 1 + 1, 0, none⟩ = some (.int .i64 0) := Br3.out.1.2 0 (by simp)
      have z0 : W3.frozen? ⟨w.heap.size + 1 + 1, 0, none⟩ = false := Br3.out.2 0 (by simp)
      have y1 : W3.cell? ⟨w.heap.size + 1 + 1, 1, none⟩ = some (.int .i64 0) := Br3.out.1.2 1 (by simp)
      have z1 : W3.frozen? ⟨w.heap.size + 1 + 1, 1, none⟩ = false := Br3.out.2 1 (by simp)
      have y2 : W3.cell? ⟨w.heap.size + 1 + 1, 2, none⟩ = some (.int .i64 0) := Br3.out.1.2 2 (by simp)
      have z2 : W3.frozen? ⟨w.heap.size + 1 + 1, 2, none⟩ = false := Br3.out.2 2 (by simp)
      go_wp2_with fail
      refine wp_goto ?_
      simp only [Exit.inBlock, Exit.then]
      refine ⟨_, rfl, ?_⟩
      go_wp2_with ((try simp only [Exit.inBlock, Exit.then, Exit.noGoto]); (with_reducible refine bodyPost_ret (v := .tuple #[.agg #[.int .i64 (k : Int), .int .i64 4, .int .i64 0], .int .i64 (-1)]) ?_ (by exact rfl) ?_); (simp [results, Tryz.results117, go_sem, y0, y1, y2, z0, z1, z2]); (exact ⟨by rw [HF.out, HNv.out], by rw [HHs.out, HDs.out]; exact fin3 O03.out O13.out C3.out hRr.out HS0.out HS1.out _ _ _⟩))
    · have HDs := hid (show stepD ds ⟨(k : Int), 3, (a : Int)⟩ = ds by rw [HD0.out]; unfold decD; rw [if_neg hq, ← hDD.out]; exact List.set_getElem_self hk)
      have x2d1 := X2d1.out
      go_wp2_with fail
      refine (impl_decideN g1 (k * 3) D.status_ 2 _ x2d1 hq).mono ?_
      rintro e w9 ⟨rfl, rfl⟩
      clear hq
      have y0 : w9.cell? ⟨w.heap.size + 1 + 1, 0, none⟩ = some (.int .i64 0) := Br2.out.1.2 0 (by simp)
      have z0 : w9.frozen? ⟨w.heap.size + 1 + 1, 0, none⟩ = false := Br2.out.2 0 (by simp)
      have y1 : w9.cell? ⟨w.heap.size + 1 + 1, 1, none⟩ = some (.int .i64 0) := Br2.out.1.2 1 (by simp)
      have z1 : w9.frozen? ⟨w.heap.size + 1 + 1, 1, none⟩ = false := Br2.out.2 1 (by simp)
      have y2 : w9.cell? ⟨w.heap.size + 1 + 1, 2, none⟩ = some (.int .i64 0) := Br2.out.1.2 2 (by simp)
      have z2 : w9.frozen? ⟨w.heap.size + 1 + 1, 2, none⟩ = false := Br2.out.2 2 (by simp)
      go_wp2_with fail
      refine wp_goto ?_
      simp only [Exit.inBlock, Exit.then]
      refine ⟨_, rfl, ?_⟩
      go_wp2_with ((try simp only [Exit.inBlock, Exit.then, Exit.noGoto]); (with_reducible refine bodyPost_ret (v := .tuple #[.agg #[.int .i64 (k : Int), .int .i64 4, .int .i64 0], .int .i64 (-1)]) ?_ (by exact rfl) ?_); (simp [results, Tryz.results117, go_sem, y0, y1, y2, z0, z1, z2]); (exact ⟨by rw [HF.out, HNv.out], by rw [HHs.out, HDs.out]; exact fin3 O02.out O12.out C2.out hRr.out HS0.out HS1.out _ _ _⟩))
  · have HDs := hid (show stepD ds ⟨(k : Int), 4, (a : Int)⟩ = ds by simp [stepD])
    have HNv := hid (show stepN hs ds ⟨(k : Int), 4, (a : Int)⟩ = -1 by simp [stepN])
    have HF := hid (show stepF hs ds ⟨(k : Int), 4, (a : Int)⟩ = nextF ds ⟨(k : Int), 4, (a : Int)⟩ 5 by simp [stepF])
    have hgs0 : g0 < W2.heap.size := Nat.lt_of_lt_of_le Hg.out.1 C2.out.size
    have hgs1 : g1 < W2.heap.size := Nat.lt_of_lt_of_le Hg.out.2 C2.out.size
    have hws : w.heap.size + 1 < W2.heap.size := Bf2.out.1.1
    have x2h2 := X2h2.out
    by_cases hq : H.desc_ = (k : Int)
    · have hq1 : (H.desc_ == (k : Int)) = true := by rw [beq_iff_eq]; exact hq
      have HH0 := hid (show stepH hs ds ⟨(k : Int), 4, (a : Int)⟩ = hs.set ob (freeH D.status_ E H) by unfold stepH; dsimp only; rw [if_neg (by decide), if_pos rfl, hcH.out, hcE.out, hcO.out, hcD.out, if_pos hq, Int.toNat_natCast])
      clear hq
      go_wp2_with fail
      have y1 := Ext.cell hgs0 x2h2
      have y2 := Ext.cell hws x2f0
      refine wp_region_ext W2 (Below.refl _ _) (by kernel_rfl) (by kernel_rfl) ?_
      repeat (go_big_quiet_step (fail))
      refine wpQuiet_nil ?_
      rintro _ ⟨E, rfl⟩
      obtain ⟨X3, hX3⟩ : ∃ X, X = E.w := ⟨_, rfl⟩
      have bX3 : Below W2.heap.size W2 X3 := by rw [hX3]; exact E.h
      rw [← hX3]
      clear y1 y2 hX3 E
      have Bs3 := hid (Bs2.out.below bX3)
      have Bf3 := hid (Bf2.out.below bX3)
      have Br3 := hid (Br2.out.below bX3)
      have Be3 := hid (Be2.out.below bX3)
      have O03 := hid (O02.out.keep (w' := X3) fun b hb => bX3.block b (Nat.lt_of_lt_of_le (HS0.out b hb) C2.out.size))
      have O13 := hid (O12.out.keep (w' := X3) fun b hb => bX3.block b (Nat.lt_of_lt_of_le (HS1.out b hb) C2.out.size))
      have C3 := hid (C2.out.trans (ChgS.of_below bX3 _))
      have x3h0 := (bX3.cell (p := ⟨g0, ob * 3, none⟩) hgs0).trans X2h0.out
      have z3h0 := (bX3.frozen (p := ⟨g0, ob * 3, none⟩) hgs0).trans Z2h0.out
      have x3h1 := (bX3.cell (p := ⟨g0, ob * 3 + 1, none⟩) hgs0).trans X2h1.out
      have z3h1 := (bX3.frozen (p := ⟨g0, ob * 3 + 1, none⟩) hgs0).trans Z2h1.out
      have x3h2 := (bX3.cell (p := ⟨g0, ob * 3 + 2, none⟩) hgs0).trans X2h2.out
      have z3h2 := (bX3.frozen (p := ⟨g0, ob * 3 + 2, none⟩) hgs0).trans Z2h2.out
      have x3d1 := (bX3.cell (p := ⟨g1, k * 3 + 1, none⟩) hgs1).trans X2d1.out
      have x3d2 := (bX3.cell (p := ⟨g1, k * 3 + 2, none⟩) hgs1).trans X2d2.out
      have z3d1 := (bX3.frozen (p := ⟨g1, k * 3 + 1, none⟩) hgs1).trans Z2d1.out
      have hg3 : g0 < X3.heap.size := Nat.lt_of_lt_of_le hgs0 bX3.size
      have hg13 : g1 < X3.heap.size := Nat.lt_of_lt_of_le hgs1 bX3.size
      have hqf : w.heap.size + 1 ≠ g0 := by have h8 := Hg.out; omega
      have hqr : w.heap.size + 1 + 1 ≠ g0 := by have h8 := Hg.out; omega
      have x3e0 : X3.cell? ⟨W1.heap.size, 0, none⟩ = some (.int .i64 (ob : Int)) := Be3.out.1.2 0 (by simp)
      have x3e1 : X3.cell? ⟨W1.heap.size, 1, none⟩ = some (.int .i64 E.version_) := Be3.out.1.2 1 (by simp)
      have x3e2 : X3.cell? ⟨W1.heap.size, 2, none⟩ = some (.int .i64 E.old_) := Be3.out.1.2 2 (by simp)
      have x3e3 : X3.cell? ⟨W1.heap.size, 3, none⟩ = some (.int .i64 E.new_) := Be3.out.1.2 3 (by simp)
      have x3e4 : X3.cell? ⟨W1.heap.size, 4, none⟩ = some (.bool E.write_) := Be3.out.1.2 4 (by simp)
      by_cases hc : D.status_ = 1 ∧ E.write_ = true
      · have HHs := hid (show stepH hs ds ⟨(k : Int), 4, (a : Int)⟩ = hs.set ob ⟨E.new_, (H.version_ + 1) % 1000001, -1⟩ by rw [HH0.out]; unfold freeH; rw [if_pos hc])
        have HC1 := hid hc.1; have HC2 := hid hc.2; clear hc
        go_wp2_with fail
        go_still_tail 6, (by kernel_rfl)
        go_wp2_with fail
        refine (impl_freeY g0 (ob * 3) _ _ _ _ ⟨(ob : Int), E.version_, E.old_, E.new_, E.write_⟩ X3.drew hg3 x3h0 x3h1 x3h2 z3h0 z3h1 z3h2 hver HC1.out HC2.out).mono ?_; rintro e w9 ⟨rfl, hw9⟩; replace hw9 := hid hw9
        have Cg : ChgS (fun b => b = g0) X3 w9 := by rw [hw9.out]; exact ((((ChgS.refl (fun b => b = g0) X3).drew.set _ _ rfl).set _ _ rfl).set _ _ rfl).alloc _
        have Bf9 := hid (Bf3.out.chg Cg hqf)
        have Br9 := hid (Br3.out.chg Cg hqr)
        have O19 := hid (O13.out.chg Cg (fun b hb => ⟨Nat.lt_of_lt_of_le (HS1.out b hb) C3.out.size, fun e => hdj b (by rw [e]; exact hg0) hb⟩))
        have C9 := hid (C3.out.trans (Cg.mono fun b hb => by subst hb; exact .inl hg0))
        have x9d2 := (cell_chg (o := k * 3 + 2) Cg hg13 (fun e => hg01 e.symm)).trans x3d2
        have O09 : Hid (ownL S0 w9 (Value.slice (some ⟨g0, 0, none⟩) hs.length cap0) (hs.set ob ⟨E.new_, (H.version_ + 1) % 1000001, -1⟩)) := by
          have hlt9 : ∀ b, S0 b → b < X3.heap.size := fun b hb => Nat.lt_of_lt_of_le (HS0.out b hb) C3.out.size
          have h0 : ownL S0 X3.drew (Value.slice (some ⟨g0, 0, none⟩) hs.length cap0) hs := O03.out
          have h1 := own_head_set h0 ob hoh 2 (by omega) (.int .i64 (-1)) ⟨H.value_, H.version_, -1⟩ (by rw [hHH.out]; rfl)
          have h2 := own_head_set h1 ob (by rw [List.length_set]; exact hoh) 0 (by omega) (.int .i64 (E.new_)) ⟨E.new_, H.version_, -1⟩ (by rw [List.getElem_set_self]; rfl)
          have h3 := own_head_set h2 ob (by rw [List.length_set, List.length_set]; exact hoh) 1 (by omega) (.int .i64 ((H.version_ + 1) % 1000001)) ⟨E.new_, (H.version_ + 1) % 1000001, -1⟩ (by rw [List.getElem_set_self]; rfl)
          rw [List.set_set, List.set_set] at h3
          rw [hw9.out]; exact hid (own_alloc h3 (fun b hb => by simpa [World.setCell] using hlt9 b hb))
        clear Cg
        have x9f0 : w9.cell? ⟨w.heap.size + 1, 0, none⟩ = some (.int .i64 (k : Int)) := Bf9.out.1.2 0 (by simp)
        have x9f1 : w9.cell? ⟨w.heap.size + 1, 1, none⟩ = some (.int .i64 4) := Bf9.out.1.2 1 (by simp)
        have x9f2 : w9.cell? ⟨w.heap.size + 1, 2, none⟩ = some (.int .i64 (a : Int)) := Bf9.out.1.2 2 (by simp)
        go_wp2_with fail
        refine (impl_behind g1 (k * 3) _ n _ a _ x9d2 (by omega) (by omega) ha).mono ?_
        rintro e w8 ⟨rfl, rfl⟩
        by_cases hb : a + 1 < n
        · have hbc : behindC a n = (a : Int) + 1 := if_pos hb
          have hbz : ((a : Int) + 1 == 0) = false := by rw [beq_eq_false_iff_ne]; omega
          have HF2 := hid (show nextF ds ⟨(k : Int), 4, (a : Int)⟩ 5 = ⟨(k : Int), 4, (a : Int) + 1⟩ by unfold nextF; dsimp only; rw [entsAt_eq hk, hn.out, if_pos (by omega)])
          rw [hbc]
          clear hb hbc
          have y0 : w9.cell? ⟨w.heap.size + 1 + 1, 0, none⟩ = some (.int .i64 0) := Br9.out.1.2 0 (by simp)
          have z0 : w9.frozen? ⟨w.heap.size + 1 + 1, 0, none⟩ = false := Br9.out.2 0 (by simp)
          have y1 : w9.cell? ⟨w.heap.size + 1 + 1, 1, none⟩ = some (.int .i64 0) := Br9.out.1.2 1 (by simp)
          have z1 : w9.frozen? ⟨w.heap.size + 1 + 1, 1, none⟩ = false := Br9.out.2 1 (by simp)
          have y2 : w9.cell? ⟨w.heap.size + 1 + 1, 2, none⟩ = some (.int .i64 0) := Br9.out.1.2 2 (by simp)
          have z2 : w9.frozen? ⟨w.heap.size + 1 + 1, 2, none⟩ = false := Br9.out.2 2 (by simp)
          go_wp2_with fail
          refine wp_goto ?_
          simp only [Exit.inBlock, Exit.then]
          refine ⟨_, rfl, ?_⟩
          go_wp2_with ((try simp only [Exit.inBlock, Exit.then, Exit.noGoto]); (with_reducible refine bodyPost_ret (v := .tuple #[.agg #[.int .i64 (k : Int), .int .i64 4, .int .i64 ((a : Int) + 1)], .int .i64 (-1)]) ?_ (by exact rfl) ?_); (simp [results, Tryz.results117, go_sem, y0, y1, y2, z0, z1, z2]); (exact ⟨by rw [HF.out, HNv.out, HF2.out], by rw [HHs.out, HDs.out]; exact fin3 O09.out O19.out C9.out hRr.out HS0.out HS1.out _ _ _⟩))
        · have hbc : behindC a n = 0 := if_neg hb
          have HF2 := hid (show nextF ds ⟨(k : Int), 4, (a : Int)⟩ 5 = ⟨(k : Int), 5, 0⟩ by unfold nextF; dsimp only; rw [entsAt_eq hk, hn.out, if_neg (by omega)])
          rw [hbc]
          clear hb hbc
          have y0 : w9.cell? ⟨w.heap.size + 1 + 1, 0, none⟩ = some (.int .i64 0) := Br9.out.1.2 0 (by simp)
          have z0 : w9.frozen? ⟨w.heap.size + 1 + 1, 0, none⟩ = false := Br9.out.2 0 (by simp)
          have y1 : w9.cell? ⟨w.heap.size + 1 + 1, 1, none⟩ = some (.int .i64 0) := Br9.out.1.2 1 (by simp)
          have z1 : w9.frozen? ⟨w.heap.size + 1 + 1, 1, none⟩ = false := Br9.out.2 1 (by simp)
          have y2 : w9.cell? ⟨w.heap.size + 1 + 1, 2, none⟩ = some (.int .i64 0) := Br9.out.1.2 2 (by simp)
          have z2 : w9.frozen? ⟨w.heap.size + 1 + 1, 2, none⟩ = false := Br9.out.2 2 (by simp)
          go_wp2_with fail
          refine wp_goto ?_
          simp only [Exit.inBlock, Exit.then]
          refine ⟨_, rfl, ?_⟩
          go_wp2_with ((try simp only [Exit.inBlock, Exit.then, Exit.noGoto]); (with_reducible refine bodyPost_ret (v := .tuple #[.agg #[.int .i64 (k : Int), .int .i64 5, .int .i64 0], .int .i64 (-1)]) ?_ (by exact rfl) ?_); (simp [results, Tryz.results117, go_sem, y0, y1, y2, z0, z1, z2]); (exact ⟨by rw [HF.out, HNv.out, HF2.out], by rw [HHs.out, HDs.out]; exact fin3 O09.out O19.out C9.out hRr.out HS0.out HS1.out _ _ _⟩))
      · have HHs := hid (show stepH hs ds ⟨(k : Int), 4, (a : Int)⟩ = hs.set ob ⟨H.value_, H.version_, -1⟩ by rw [HH0.out]; unfold freeH; rw [if_neg hc])
        by_cases hc1 : D.status_ = 1
        · have hc2 : E.write_ = false := by cases h : E.write_; rfl; exact absurd ⟨hc1, h⟩ hc
          have HC1 := hid hc1; have HC2 := hid hc2; clear hc hc1 hc2
          go_wp2_with fail
          go_still_tail 6, (by kernel_rfl)
          go_wp2_with fail
          refine (impl_freeN2 g0 (ob * 3) _ _ _ _ ⟨(ob : Int), E.version_, E.old_, E.new_, E.write_⟩ X3.drew hg3 x3h0 x3h1 x3h2 z3h0 z3h1 z3h2 hver HC1.out HC2.out).mono ?_; rintro e w9 ⟨rfl, hw9⟩; replace hw9 := hid hw9
          have Cg : ChgS (fun b => b = g0) X3 w9 := by rw [hw9.out]; exact ((ChgS.refl (fun b => b = g0) X3).drew.set _ _ rfl).alloc _
          have Bf9 := hid (Bf3.out.chg Cg hqf)
          have Br9 := hid (Br3.out.chg Cg hqr)
          have O19 := hid (O13.out.chg Cg (fun b hb => ⟨Nat.lt_of_lt_of_le (HS1.out b hb) C3.out.size, fun e => hdj b (by rw [e]; exact hg0) hb⟩))
          have C9 := hid (C3.out.trans (Cg.mono fun b hb => by subst hb; exact .inl hg0))
          have x9d2 := (cell_chg (o := k * 3 + 2) Cg hg13 (fun e => hg01 e.symm)).trans x3d2
          have O09 : Hid (ownL S0 w9 (Value.slice (some ⟨g0, 0, none⟩) hs.length cap0) (hs.set ob ⟨H.value_, H.version_, -1⟩)) := by
            have hlt9 : ∀ b, S0 b → b < X3.heap.size := fun b hb => Nat.lt_of_lt_of_le (HS0.out b hb) C3.out.size
            have h0 : ownL S0 X3.drew (Value.slice (some ⟨g0, 0, none⟩) hs.length cap0) hs := O03.out
            have h1 := own_head_set h0 ob hoh 2 (by omega) (.int .i64 (-1)) ⟨H.value_, H.version_, -1⟩ (by rw [hHH.out]; rfl)
            rw [hw9.out]; exact hid (own_alloc h1 (fun b hb => by simpa [World.setCell] using hlt9 b hb))
          clear Cg
          have x9f0 : w9.cell? ⟨w.heap.size + 1, 0, none⟩ = some (.int .i64 (k : Int)) := Bf9.out.1.2 0 (by simp)
          have x9f1 : w9.cell? ⟨w.heap.size + 1, 1, none⟩ = some (.int .i64 4) := Bf9.out.1.2 1 (by simp)
          have x9f2 : w9.cell? ⟨w.heap.size + 1, 2, none⟩ = some (.int .i64 (a : Int)) := Bf9.out.1.2 2 (by simp)
          go_wp2_with fail
          refine (impl_behind g1 (k * 3) _ n _ a _ x9d2 (by omega) (by omega) ha).mono ?_
          rintro e w8 ⟨rfl, rfl⟩
          by_cases hb : a + 1 < n
          · have hbc : behindC a n = (a : Int) + 1 := if_pos hb
            have hbz : ((a : Int) + 1 == 0) = false := by rw [beq_eq_false_iff_ne]; omega
            have HF2 := hid (show nextF ds ⟨(k : Int), 4, (a : Int)⟩ 5 = ⟨(k : Int), 4, (a : Int) + 1⟩ by unfold nextF; dsimp only; rw [entsAt_eq hk, hn.out, if_pos (by omega)])
            rw [hbc]
            clear hb hbc
            have y0 : w9.cell? ⟨w.heap.size + 1 + 1, 0, none⟩ = some (.int .i64 0) := Br9.out.1.2 0 (by simp)
            have z0 : w9.frozen? ⟨w.heap.size + 1 + 1, 0, none⟩ = false := Br9.out.2 0 (by simp)
            have y1 : w9.cell? ⟨w.heap.size + 1 + 1, 1, none⟩ = some (.int .i64 0) := Br9.out.1.2 1 (by simp)
            have z1 : w9.frozen? ⟨w.heap.size + 1 + 1, 1, none⟩ = false := Br9.out.2 1 (by simp)
            have y2 : w9.cell? ⟨w.heap.size + 1 + 1, 2, none⟩ = some (.int .i64 0) := Br9.out.1.2 2 (by simp)
            have z2 : w9.frozen? ⟨w.heap.size + 1 + 1, 2, none⟩ = false := Br9.out.2 2 (by simp)
            go_wp2_with fail
            refine wp_goto ?_
            simp only [Exit.inBlock, Exit.then]
            refine ⟨_, rfl, ?_⟩
            go_wp2_with ((try simp only [Exit.inBlock, Exit.then, Exit.noGoto]); (with_reducible refine bodyPost_ret (v := .tuple #[.agg #[.int .i64 (k : Int), .int .i64 4, .int .i64 ((a : Int) + 1)], .int .i64 (-1)]) ?_ (by exact rfl) ?_); (simp [results, Tryz.results117, go_sem, y0, y1, y2, z0, z1, z2]); (exact ⟨by rw [HF.out, HNv.out, HF2.out], by rw [HHs.out, HDs.out]; exact fin3 O09.out O19.out C9.out hRr.out HS0.out HS1.out _ _ _⟩))
          · have hbc : behindC a n = 0 := if_neg hb
            have HF2 := hid (show nextF ds ⟨(k : Int), 4, (a : Int)⟩ 5 = ⟨(k : Int), 5, 0⟩ by unfold nextF; dsimp only; rw [entsAt_eq hk, hn.out, if_neg (by omega)])
            rw [hbc]
            clear hb hbc
            have y0 : w9.cell? ⟨w.heap.size + 1 + 1, 0, none⟩ = some (.int .i64 0) := Br9.out.1.2 0 (by simp)
            have z0 : w9.frozen? ⟨w.heap.size + 1 + 1, 0, none⟩ = false := Br9.out.2 0 (by simp)
            have y1 : w9.cell? ⟨w.heap.size + 1 + 1, 1, none⟩ = some (.int .i64 0) := Br9.out.1.2 1 (by simp)
            have z1 : w9.frozen? ⟨w.heap.size + 1 + 1, 1, none⟩ = false := Br9.out.2 1 (by simp)
            have y2 : w9.cell? ⟨w.heap.size + 1 + 1, 2, none⟩ = some (.int .i64 0) := Br9.out.1.2 2 (by simp)
            have z2 : w9.frozen? ⟨w.heap.size + 1 + 1, 2, none⟩ = false := Br9.out.2 2 (by simp)
            go_wp2_with fail
            refine wp_goto ?_
            simp only [Exit.inBlock, Exit.then]
            refine ⟨_, rfl, ?_⟩
            go_wp2_with ((try simp only [Exit.inBlock, Exit.then, Exit.noGoto]); (with_reducible refine bodyPost_ret (v := .tuple #[.agg #[.int .i64 (k : Int), .int .i64 5, .int .i64 0], .int .i64 (-1)]) ?_ (by exact rfl) ?_); (simp [results, Tryz.results117, go_sem, y0, y1, y2, z0, z1, z2]); (exact ⟨by rw [HF.out, HNv.out, HF2.out], by rw [HHs.out, HDs.out]; exact fin3 O09.out O19.out C9.out hRr.out HS0.out HS1.out _ _ _⟩))
        · have hc1' := hid (show (D.status_ == 1) = false by rw [beq_eq_false_iff_ne]; exact hc1)
          clear hc hc1
          go_wp2_with fail
          go_still_tail 6, (by kernel_rfl)
          go_wp2_with fail
          refine (impl_freeN g0 (ob * 3) _ _ _ _ ⟨(ob : Int), E.version_, E.old_, E.new_, E.write_⟩ X3.drew hg3 x3h0 x3h1 x3h2 z3h0 z3h1 z3h2 hver hc1'.out).mono ?_; rintro e w9 ⟨rfl, hw9⟩; replace hw9 := hid hw9
          have Cg : ChgS (fun b => b = g0) X3 w9 := by rw [hw9.out]; exact ((ChgS.refl (fun b => b = g0) X3).drew.set _ _ rfl).alloc _
          have Bf9 := hid (Bf3.out.chg Cg hqf)
          have Br9 := hid (Br3.out.chg Cg hqr)
          have O19 := hid (O13.out.chg Cg (fun b hb => ⟨Nat.lt_of_lt_of_le (HS1.out b hb) C3.out.size, fun e => hdj b (by rw [e]; exact hg0) hb⟩))
          have C9 := hid (C3.out.trans (Cg.mono fun b hb => by subst hb; exact .inl hg0))
          have x9d2 := (cell_chg (o := k * 3 + 2) Cg hg13 (fun e => hg01 e.symm)).trans x3d2
          have O09 : Hid (ownL S0 w9 (Value.slice (some ⟨g0, 0, none⟩) hs.length cap0) (hs.set ob ⟨H.value_, H.version_, -1⟩)) := by
            have hlt9 : ∀ b, S0 b → b < X3.heap.size := fun b hb => Nat.lt_of_lt_of_le (HS0.out b hb) C3.out.size
            have h0 : ownL S0 X3.drew (Value.slice (some ⟨g0, 0, none⟩) hs.length cap0) hs := O03.out
            have h1 := own_head_set h0 ob hoh 2 (by omega) (.int .i64 (-1)) ⟨H.value_, H.version_, -1⟩ (by rw [hHH.out]; rfl)
            rw [hw9.out]; exact hid (own_alloc h1 (fun b hb => by simpa [World.setCell] using hlt9 b hb))
          clear Cg
          have x9f0 : w9.cell? ⟨w.heap.size + 1, 0, none⟩ = some (.int .i64 (k : Int)) := Bf9.out.1.2 0 (by simp)
          have x9f1 : w9.cell? ⟨w.heap.size + 1, 1, none⟩ = some (.int .i64 4) := Bf9.out.1.2 1 (by simp)
          have x9f2 : w9.cell? ⟨w.heap.size + 1, 2, none⟩ = some (.int .i64 (a : Int)) := Bf9.out.1.2 2 (by simp)
          go_wp2_with fail
          refine (impl_behind g1 (k * 3) _ n _ a _ x9d2 (by omega) (by omega) ha).mono ?_
          rintro e w8 ⟨rfl, rfl⟩
          by_cases hb : a + 1 < n
          · have hbc : behindC a n = (a : Int) + 1 := if_pos hb
            have hbz : ((a : Int) + 1 == 0) = false := by rw [beq_eq_false_iff_ne]; omega
            have HF2 := hid (show nextF ds ⟨(k : Int), 4, (a : Int)⟩ 5 = ⟨(k : Int), 4, (a : Int) + 1⟩ by unfold nextF; dsimp only; rw [entsAt_eq hk, hn.out, if_pos (by omega)])
            rw [hbc]
            clear hb hbc
            have y0 : w9.cell? ⟨w.heap.size + 1 + 1, 0, none⟩ = some (.int .i64 0) := Br9.out.1.2 0 (by simp)
            have z0 : w9.frozen? ⟨w.heap.size + 1 + 1, 0, none⟩ = false := Br9.out.2 0 (by simp)
            have y1 : w9.cell? ⟨w.heap.size + 1 + 1, 1, none⟩ = some (.int .i64 0) := Br9.out.1.2 1 (by simp)
            have z1 : w9.frozen? ⟨w.heap.size + 1 + 1, 1, none⟩ = false := Br9.out.2 1 (by simp)
            have y2 : w9.cell? ⟨w.heap.size + 1 + 1, 2, none⟩ = some (.int .i64 0) := Br9.out.1.2 2 (by simp)
            have z2 : w9.frozen? ⟨w.heap.size + 1 + 1, 2, none⟩ = false := Br9.out.2 2 (by simp)
            go_wp2_with fail
            refine wp_goto ?_
            simp only [Exit.inBlock, Exit.then]
            refine ⟨_, rfl, ?_⟩
            go_wp2_with ((try simp only [Exit.inBlock, Exit.then, Exit.noGoto]); (with_reducible refine bodyPost_ret (v := .tuple #[.agg #[.int .i64 (k : Int), .int .i64 4, .int .i64 ((a : Int) + 1)], .int .i64 (-1)]) ?_ (by exact rfl) ?_); (simp [results, Tryz.results117, go_sem, y0, y1, y2, z0, z1, z2]); (exact ⟨by rw [HF.out, HNv.out, HF2.out], by rw [HHs.out, HDs.out]; exact fin3 O09.out O19.out C9.out hRr.out HS0.out HS1.out _ _ _⟩))
          · have hbc : behindC a n = 0 := if_neg hb
            have HF2 := hid (show nextF ds ⟨(k : Int), 4, (a : Int)⟩ 5 = ⟨(k : Int), 5, 0⟩ by unfold nextF; dsimp only; rw [entsAt_eq hk, hn.out, if_neg (by omega)])
            rw [hbc]
            clear hb hbc
            have y0 : w9.cell? ⟨w.heap.size + 1 + 1, 0, none⟩ = some (.int .i64 0) := Br9.out.1.2 0 (by simp)
            have z0 : w9.frozen? ⟨w.heap.size + 1 + 1, 0, none⟩ = false := Br9.out.2 0 (by simp)
            have y1 : w9.cell? ⟨w.heap.size + 1 + 1, 1, none⟩ = some (.int .i64 0) := Br9.out.1.2 1 (by simp)
            have z1 : w9.frozen? ⟨w.heap.size + 1 + 1, 1, none⟩ = false := Br9.out.2 1 (by simp)
            have y2 : w9.cell? ⟨w.heap.size + 1 + 1, 2, none⟩ = some (.int .i64 0) := Br9.out.1.2 2 (by simp)
            have z2 : w9.frozen? ⟨w.heap.size + 1 + 1, 2, none⟩ = false := Br9.out.2 2 (by simp)
            go_wp2_with fail
            refine wp_goto ?_
            simp only [Exit.inBlock, Exit.then]
            refine ⟨_, rfl, ?_⟩
            go_wp2_with ((try simp only [Exit.inBlock, Exit.then, Exit.noGoto]); (with_reducible refine bodyPost_ret (v := .tuple #[.agg #[.int .i64 (k : Int), .int .i64 5, .int .i64 0], .int .i64 (-1)]) ?_ (by exact rfl) ?_); (simp [results, Tryz.results117, go_sem, y0, y1, y2, z0, z1, z2]); (exact ⟨by rw [HF.out, HNv.out, HF2.out], by rw [HHs.out, HDs.out]; exact fin3 O09.out O19.out C9.out hRr.out HS0.out HS1.out _ _ _⟩))
    · have HHs := hid (show stepH hs ds ⟨(k : Int), 4, (a : Int)⟩ = hs by unfold stepH; dsimp only; rw [if_neg (by decide), if_pos rfl, hcH.out, if_neg hq])
      have hq1 : (H.desc_ == (k : Int)) = false := by rw [beq_eq_false_iff_ne]; exact hq
      clear hq
      go_wp2_with fail
      have y1 := Ext.cell hgs0 x2h2
      have y2 := Ext.cell hws x2f0
      refine wp_region_ext W2 (Below.refl _ _) (by kernel_rfl) (by kernel_rfl) ?_
      repeat (go_big_quiet_step (fail))
      refine wpQuiet_nil ?_
      rintro _ ⟨E, rfl⟩
      obtain ⟨X3, hX3⟩ : ∃ X, X = E.w := ⟨_, rfl⟩
      have bX3 : Below W2.heap.size W2 X3 := by rw [hX3]; exact E.h
      rw [← hX3]
      clear y1 y2 hX3 E
      have Bs3 := hid (Bs2.out.below bX3)
      have Bf3 := hid (Bf2.out.below bX3)
      have Br3 := hid (Br2.out.below bX3)
      have Be3 := hid (Be2.out.below bX3)
      have O03 := hid (O02.out.keep (w' := X3) fun b hb => bX3.block b (Nat.lt_of_lt_of_le (HS0.out b hb) C2.out.size))
      have O13 := hid (O12.out.keep (w' := X3) fun b hb => bX3.block b (Nat.lt_of_lt_of_le (HS1.out b hb) C2.out.size))
      have C3 := hid (C2.out.trans (ChgS.of_below bX3 _))
      have x3h0 := (bX3.cell (p := ⟨g0, ob * 3, none⟩) hgs0).trans X2h0.out
      have z3h0 := (bX3.frozen (p := ⟨g0, ob * 3, none⟩) hgs0).trans Z2h0.out
      have x3h1 := (bX3.cell (p := ⟨g0, ob * 3 + 1, none⟩) hgs0).trans X2h1.out
      have z3h1 := (bX3.frozen (p := ⟨g0, ob * 3 + 1, none⟩) hgs0).trans Z2h1.out
      have x3h2 := (bX3.cell (p := ⟨g0, ob * 3 + 2, none⟩) hgs0).trans X2h2.out
      have z3h2 := (bX3.frozen (p := ⟨g0, ob * 3 + 2, none⟩) hgs0).trans Z2h2.out
      have x3d1 := (bX3.cell (p := ⟨g1, k * 3 + 1, none⟩) hgs1).trans X2d1.out
      have x3d2 := (bX3.cell (p := ⟨g1, k * 3 + 2, none⟩) hgs1).trans X2d2.out
      have z3d1 := (bX3.frozen (p := ⟨g1, k * 3 + 1, none⟩) hgs1).trans Z2d1.out
      have x3f0 : X3.cell? ⟨w.heap.size + 1, 0, none⟩ = some (.int .i64 (k : Int)) := Bf3.out.1.2 0 (by simp)
      have x3f1 : X3.cell? ⟨w.heap.size + 1, 1, none⟩ = some (.int .i64 4) := Bf3.out.1.2 1 (by simp)
      have x3f2 : X3.cell? ⟨w.heap.size + 1, 2, none⟩ = some (.int .i64 (a : Int)) := Bf3.out.1.2 2 (by simp)
      go_wp2_with fail
      refine (impl_behind g1 (k * 3) _ n _ a _ x3d2 (by omega) (by omega) ha).mono ?_
      rintro e w9 ⟨rfl, rfl⟩
      by_cases hb : a + 1 < n
      · have hbc : behindC a n = (a : Int) + 1 := if_pos hb
        have hbz : ((a : Int) + 1 == 0) = false := by rw [beq_eq_false_iff_ne]; omega
        have HF2 := hid (show nextF ds ⟨(k : Int), 4, (a : Int)⟩ 5 = ⟨(k : Int), 4, (a : Int) + 1⟩ by unfold nextF; dsimp only; rw [entsAt_eq hk, hn.out, if_pos (by omega)])
        rw [hbc]
        clear hb hbc
        have y0 : X3.cell? ⟨w.heap.size + 1 + 1, 0, none⟩ = some (.int .i64 0) := Br3.out.1.2 0 (by simp)
        have z0 : X3.frozen? ⟨w.heap.size + 1 + 1, 0, none⟩ = false := Br3.out.2 0 (by simp)
        have y1 : X3.cell? ⟨w.heap.size + 1 + 1, 1, none⟩ = some (.int .i64 0) := Br3.out.1.2 1 (by simp)
        have z1 : X3.frozen? ⟨w.heap.size + 1 + 1, 1, none⟩ = false := Br3.out.2 1 (by simp)
        have y2 : X3.cell? ⟨w.heap.size + 1 + 1, 2, none⟩ = some (.int .i64 0) := Br3.out.1.2 2 (by simp)
        have z2 : X3.frozen? ⟨w.heap.size + 1 + 1, 2, none⟩ = false := Br3.out.2 2 (by simp)
        go_wp2_with fail
        refine wp_goto ?_
        simp only [Exit.inBlock, Exit.then]
        refine ⟨_, rfl, ?_⟩
        go_wp2_with ((try simp only [Exit.inBlock, Exit.then, Exit.noGoto]); (with_reducible refine bodyPost_ret (v := .tuple #[.agg #[.int .i64 (k : Int), .int .i64 4, .int .i64 ((a : Int) + 1)], .int .i64 (-1)]) ?_ (by exact rfl) ?_); (simp [results, Tryz.results117, go_sem, y0, y1, y2, z0, z1, z2]); (exact ⟨by rw [HF.out, HNv.out, HF2.out], by rw [HHs.out, HDs.out]; exact fin3 O03.out O13.out C3.out hRr.out HS0.out HS1.out _ _ _⟩))
      · have hbc : behindC a n = 0 := if_neg hb
        have HF2 := hid (show nextF ds ⟨(k : Int), 4, (a : Int)⟩ 5 = ⟨(k : Int), 5, 0⟩ by unfold nextF; dsimp only; rw [entsAt_eq hk, hn.out, if_neg (by omega)])
        rw [hbc]
        clear hb hbc
        have y0 : X3.cell? ⟨w.heap.size + 1 + 1, 0, none⟩ = some (.int .i64 0) := Br3.out.1.2 0 (by simp)
        have z0 : X3.frozen? ⟨w.heap.size + 1 + 1, 0, none⟩ = false := Br3.out.2 0 (by simp)
        have y1 : X3.cell? ⟨w.heap.size + 1 + 1, 1, none⟩ = some (.int .i64 0) := Br3.out.1.2 1 (by simp)
        have z1 : X3.frozen? ⟨w.heap.size + 1 + 1, 1, none⟩ = false := Br3.out.2 1 (by simp)
        have y2 : X3.cell? ⟨w.heap.size + 1 + 1, 2, none⟩ = some (.int .i64 0) := Br3.out.1.2 2 (by simp)
        have z2 : X3.frozen? ⟨w.heap.size + 1 + 1, 2, none⟩ = false := Br3.out.2 2 (by simp)
        go_wp2_with fail
        refine wp_goto ?_
        simp only [Exit.inBlock, Exit.then]
        refine ⟨_, rfl, ?_⟩
        go_wp2_with ((try simp only [Exit.inBlock, Exit.then, Exit.noGoto]); (with_reducible refine bodyPost_ret (v := .tuple #[.agg #[.int .i64 (k : Int), .int .i64 5, .int .i64 0], .int .i64 (-1)]) ?_ (by exact rfl) ?_); (simp [results, Tryz.results117, go_sem, y0, y1, y2, z0, z1, z2]); (exact ⟨by rw [HF.out, HNv.out, HF2.out], by rw [HHs.out, HDs.out]; exact fin3 O03.out O13.out C3.out hRr.out HS0.out HS1.out _ _ _⟩))
  · have ha5 : a = 0 := by have h9 := Hat.out (by decide); omega
    have HHs := hid (show stepH hs ds ⟨(k : Int), 5, (a : Int)⟩ = hs by simp [stepH])
    have HDs := hid (show stepD ds ⟨(k : Int), 5, (a : Int)⟩ = ds by simp [stepD])
    have HNv := hid (show stepN hs ds ⟨(k : Int), 5, (a : Int)⟩ = -1 by simp [stepN])
    have HF := hid (show stepF hs ds ⟨(k : Int), 5, (a : Int)⟩ = ⟨(k : Int), 5, 0⟩ by simp [stepF]; exact ha5)
    clear ha5
    have y0 : W2.cell? ⟨w.heap.size + 1 + 1, 0, none⟩ = some (.int .i64 0) := Br2.out.1.2 0 (by simp)
    have z0 : W2.frozen? ⟨w.heap.size + 1 + 1, 0, none⟩ = false := Br2.out.2 0 (by simp)
    have y1 : W2.cell? ⟨w.heap.size + 1 + 1, 1, none⟩ = some (.int .i64 0) := Br2.out.1.2 1 (by simp)
    have z1 : W2.frozen? ⟨w.heap.size + 1 + 1, 1, none⟩ = false := Br2.out.2 1 (by simp)
    have y2 : W2.cell? ⟨w.heap.size + 1 + 1, 2, none⟩ = some (.int .i64 0) := Br2.out.1.2 2 (by simp)
    have z2 : W2.frozen? ⟨w.heap.size + 1 + 1, 2, none⟩ = false := Br2.out.2 2 (by simp)
    go_wp2_with fail
    refine wp_goto ?_
    simp only [Exit.inBlock, Exit.then]
    refine ⟨_, rfl, ?_⟩
    go_wp2_with ((try simp only [Exit.inBlock, Exit.then, Exit.noGoto]); (with_reducible refine bodyPost_ret (v := .tuple #[.agg #[.int .i64 (k : Int), .int .i64 5, .int .i64 0], .int .i64 (-1)]) ?_ (by exact rfl) ?_); (simp [results, Tryz.results117, go_sem, y0, y1, y2, z0, z1, z2]); (exact ⟨by rw [HF.out, HNv.out], by rw [HHs.out, HDs.out]; exact fin3 O02.out O12.out C2.out hRr.out HS0.out HS1.out _ _ _⟩))
end Go.Proofs.YtbbdchlabdilcabGreat
