/- The program's chapter 4: TurnAll, Turned. -/
import Derived.Test.YtjcnoogloncbbaaI4v
import Derived.Defers
import Derived.Recover
import Derived.Laws.Pointers
namespace Go.Proofs.Ytjcnoogloncbbaa
set_option maxRecDepth 100000
open Go.RowKit Go.Proofs Go.Own
set_option linter.unusedVariables false
set_option linter.unusedSimpArgs false
theorem anyIs : Try.prog.underlying 20 = some (.interface (Try.prog.methodsAt 20)) := by kernel_rfl
theorem catch_panicking (p : Addr) (x : Value) (u : TypeId) (pv : Value) (older : List PanicEntry) (w : World) (hc : w.cell? p = some x) (hz : w.frozen? p = false) :
    CallsD Try.prog 49 #[.pointer (some p)] (.panicking ({ v := .iface u pv, recovered := false } :: older)) w fun e u' w' =>
      e = .returned (.tuple #[]) ∧ u' = .panicking ({ v := .iface u pv, recovered := true } :: older) ∧ w' = w.setCell p (.bool false) := by
  have e1 : ∀ (u : TypeId) (x : Value) (w : World), (binOp .eql 20 (.iface u x) .nilIface).run Try.prog w = .ok (.bool false) w := fun u x w => run_eql_held_nil w _ _ _ anyIs
  have e2 : ∀ (w : World), (binOp .eql 20 .nilIface .nilIface).run Try.prog w = .ok (.bool true) w := fun w => run_eql_nil_nil w _ anyIs
  refine callsD_of_wpS Try.func49 rfl fun c₀ cs hu => ?_
  apply wpS_region
  simp [wpOpsS, go_sem, recoverD, hu, Try.ntmps49, e1, e2, hc, hz, bodyPostS, results, Try.results49]
theorem catch_idle (p : Addr) (x : Value) (w : World) (hc : w.cell? p = some x) (hz : w.frozen? p = false) :
    CallsD Try.prog 49 #[.pointer (some p)] .returning w fun e u' w' => e = .returned (.tuple #[]) ∧ u' = .returning ∧ w' = w.setCell p (.bool true) := by
  have e1 : ∀ (u : TypeId) (x : Value) (w : World), (binOp .eql 20 (.iface u x) .nilIface).run Try.prog w = .ok (.bool false) w := fun u x w => run_eql_held_nil w _ _ _ anyIs
  have e2 : ∀ (w : World), (binOp .eql 20 .nilIface .nilIface).run Try.prog w = .ok (.bool true) w := fun w => run_eql_nil_nil w _ anyIs
  refine callsD_of_wpS Try.func49 rfl fun c₀ cs hu => ?_
  apply wpS_region
  simp [wpOpsS, go_sem, recoverD, hu, Try.ntmps49, e1, e2, hc, hz, bodyPostS, results, Try.results49]
  cases c₀
  simp_all
theorem owns_elsewhere {w : World} {base e sz n : Nat} {v : Value} {cs : List Value} (h : w.ownsRow base e sz v n cs) (b o : Nat) (u : Value) (hb : b < base) : (w.setCell ⟨b, o, none⟩ u).ownsRow base e sz v n cs :=
  World.ownsRow.kept h (grownBy_setCell w ⟨b, o, none⟩ u) (by
    cases hv : v.ownBlock with
    | none => exact .inl rfl
    | some k => exact .inr fun e => by have h1 := (h.lt k hv).1; have h2 : k = b := Option.some.inj e; omega)
theorem allC_len : ∀ (ts : List Turn4) {xs ys : List C}, allC xs ts = some ys → ys.length = xs.length
  | [], xs, ys, h => by unfold allC at h; rw [Option.some.inj h]
  | t :: ts, xs, ys, h => by
    unfold allC at h
    cases hT : turnT xs t with
    | none => rw [hT] at h; cases h
    | some L => rw [hT] at h; rw [allC_len ts (show allC L ts = some ys from h)]; exact turnC_len hT
theorem turnAll_len {xs ys : List C} {ts : List Turn4} (h : turnAllC xs ts = some ys) : ys.length = xs.length := by
  unfold turnAllC at h
  split at h
  · exact allC_len ts h
  · cases h
set_option maxHeartbeats 16000000 in
theorem impl_TurnAll (v : Value) (xs : List Phasor) (u : Value) (ts : List Turn4) (w : World) (h : Phasors w v xs) (hx : xs.length ≤ 1048576) (g : Turn4s w u ts) (ht : ts.length ≤ 1048576) :
    Calls Try.prog 34 #[v, u] w fun e w' => ∃ (v' : Value) (ys : List Phasor), e = .returned (.tuple #[v', .bool (turnAllC (xs.map Phasor.rd) ts).isSome]) ∧ ys.map Phasor.rd = (turnAllC (xs.map Phasor.rd) ts).getD (xs.map Phasor.rd) ∧ w'.ownsRow w.heap.size 29 2 v' ys.length (ys.flatMap Phasor.enc) ∧ ys.length ≤ 1048576 ∧ Below w.heap.size w w' := by
  have hmf : ∀ (fn : Fn) (first cap : Array Value) (w : World), (Instr.makeFunc fn first cap).run Try.prog w = .ok (.func fn first cap) w := fun _ _ _ _ => rfl
  obtain ⟨i0, hi, hz0, hz1, hz2⟩ := info_parts infoPh0
  have hone := hid (oneCell_Ph xs)
  obtain ⟨ad, cap, rfl, hl, hm⟩ := Flat.form h
  obtain ⟨W1, hW1⟩ : ∃ X, w.alloc (.cells #[.bool false] 4) = X := ⟨_, rfl⟩
  have hB1 : Below w.heap.size w W1 := by rw [← hW1]; exact (Below.refl _ _).alloc (Nat.le_refl _) _
  have b0 : BoxF W1 w.heap.size [.bool false] := by rw [← hW1]; exact BoxF.alloc _ _ _
  have hs1 : W1.heap.size = w.heap.size + 1 := by rw [← hW1]; simp
  have h1 := Flat.below h hB1
  have hown : W1.ownsRow W1.heap.size 29 2 (.slice none 0 0) 0 [] := ⟨by simp, .inl ⟨rfl, rfl⟩⟩
  go_enter_defers Try.func34, Try.ntmps34
  go_wp2_with (at_builtin; refine wpList_append_flat rfl _ _ 46 rfl W1.heap.size 29 i0 (.agg #[.float .f64 0, .float .f64 0]) 2 16 Try.underlying46 hi hz0 hz1 hz2 rfl (by decide) _ _ _ rfl hown _ _ _ rfl h1 hone.out (by unfold maxLen; omega) (by omega) (by simp) ?_)
  intro v1 w2 o2 g2
  have b12 := below_of_mark hown g2 (Nat.le_refl _) (Nat.le_refl _)
  have b2 := b0.below b12
  have k0 : w2.cell? ⟨w.heap.size, 0, none⟩ = some (.bool false) := b2.1.2 0 (by simp)
  have f0 : w2.frozen? ⟨w.heap.size, 0, none⟩ = false := b2.2 0 (by simp)
  have hB2 := hB1.trans (b12.mono (by omega))
  go_wp2_with fail
  refine (impl_behindTurns _ xs _ ts _ (Flat.below h1 b12) hx (Flat.below g hB2) ht).mono ?_
  intro e w3 hR
  cases hT : turnAllC (xs.map Phasor.rd) ts with
  | none =>
    rw [hT] at hR
    obtain ⟨rfl, b3⟩ := hR
    have b4 := b2.below b3
    have k1 : w3.cell? ⟨w.heap.size, 0, none⟩ = some (.bool false) := b4.1.2 0 (by simp)
    have f1 : w3.frozen? ⟨w.heap.size, 0, none⟩ = false := b4.2 0 (by simp)
    have hB3 := hB2.trans (b3.mono hB2.size)
    clear k0 f0
    go_wp2
    refine leaves_cons (f := 49) (args := #[.pointer (some ⟨w.heap.size, 0, none⟩)]) (by simp) (by simp [go_sem]) ?_
    refine (catch_panicking ⟨w.heap.size, 0, none⟩ _ _ _ [] _ k1 f1).mono ?_
    rintro e u' w'' ⟨rfl, rfl, rfl⟩
    have k5 := World.cell?_setCell_same w3 ⟨w.heap.size, 0, none⟩ (.bool false) k1
    have hT2 := hT
    simp [Leaves, settle, results, Try.results34, go_sem, k5]
    exact ⟨v1, ⟨rfl, hT⟩, xs, by rw [hT]; rfl, owns_mono (owns_elsewhere (owns_below o2 b3) _ _ _ (by omega)) (by omega), hx, by first | (exact ((hB3.setCell (p := ⟨w.heap.size, 0, none⟩) (Nat.le_refl _) _).setCell (p := ⟨w.heap.size, 0, none⟩) (Nat.le_refl _) _)) | exact (hB3.setCell (p := ⟨w.heap.size, 0, none⟩) (Nat.le_refl _) _)⟩
  | some L =>
    rw [hT] at hR
    obtain ⟨v3, ys, rfl, hy, o3, b3⟩ := hR
    have b4 := b2.below b3
    have k1 : w3.cell? ⟨w.heap.size, 0, none⟩ = some (.bool false) := b4.1.2 0 (by simp)
    have f1 : w3.frozen? ⟨w.heap.size, 0, none⟩ = false := b4.2 0 (by simp)
    have hB3 := hB2.trans (b3.mono hB2.size)
    clear k0 f0
    go_wp2
    have k5 := World.cell?_setCell_same w3 ⟨w.heap.size, 0, none⟩ (.bool true) k1
    have f5 : (w3.setCell ⟨w.heap.size, 0, none⟩ (.bool true)).frozen? ⟨w.heap.size, 0, none⟩ = false := by rw [World.frozen?_setCell]; exact f1
    have k6 := World.cell?_setCell_same _ ⟨w.heap.size, 0, none⟩ (.bool true) k5
    refine leaves_cons (f := 49) (args := #[.pointer (some ⟨w.heap.size, 0, none⟩)]) (by simp) (by simp [go_sem]) ?_
    refine (catch_idle ⟨w.heap.size, 0, none⟩ _ _ k5 f5).mono ?_
    rintro e u' w'' ⟨rfl, rfl, rfl⟩
    simp [Leaves, settle, results, Try.results34, go_sem, k6]
    have hyl : ys.length = xs.length := by
      have h9 := turnAll_len hT
      rw [← hy] at h9
      simpa using h9
    exact ⟨v3, ⟨rfl, by rw [hT]; rfl⟩, ys, by rw [hT]; exact hy, owns_mono (owns_elsewhere (owns_elsewhere o3 _ _ _ (by have := b12.size; omega)) _ _ _ (by have := b12.size; omega)) (by have := b12.size; omega), by omega, by first | (exact ((hB3.setCell (p := ⟨w.heap.size, 0, none⟩) (Nat.le_refl _) _).setCell (p := ⟨w.heap.size, 0, none⟩) (Nat.le_refl _) _)) | exact (hB3.setCell (p := ⟨w.heap.size, 0, none⟩) (Nat.le_refl _) _)⟩
set_option maxHeartbeats 16000000 in
theorem impl_Turned0 (v : Value) (xs : List Phasor) (kd at_ fr : Int) (z0 z1 : Nat) (w : World) (h : Phasors w v xs) (hx : xs.length ≤ 1048576) :
    Calls Try.prog 27 #[v, .agg #[.int .i64 kd, .int .i64 at_, .int .i64 fr, .float .f64 z0, .float .f64 z1]] w fun e w' => ∃ (v' : Value) (ys : List Phasor), e = .returned (.tuple #[v', .bool (turnC (xs.map Phasor.rd) kd at_ fr (rd z0, rd z1)).isSome]) ∧ ys.map Phasor.rd = (turnC (xs.map Phasor.rd) kd at_ fr (rd z0, rd z1)).getD (xs.map Phasor.rd) ∧ w'.ownsRow w.heap.size 29 2 v' ys.length (ys.flatMap Phasor.enc) ∧ ys.length ≤ 1048576 ∧ Below w.heap.size w w' := by
  obtain ⟨ad, cap, rfl, hl, hm⟩ := Flat.form h
  obtain ⟨W1, hW1⟩ : ∃ X, w.alloc (.cells #[.int .i64 kd, .int .i64 at_, .int .i64 fr, .float .f64 z0, .float .f64 z1] 51) = X := ⟨_, rfl⟩
  have hB1 : Below w.heap.size w W1 := by rw [← hW1]; exact (Below.refl _ _).alloc (Nat.le_refl _) _
  have b0 : Box W1 w.heap.size [.int .i64 kd, .int .i64 at_, .int .i64 fr, .float .f64 z0, .float .f64 z1] := by rw [← hW1]; exact Box.alloc _ _ _
  have k0 : W1.cell? ⟨w.heap.size, 0, none⟩ = some (.int .i64 kd) := b0.2 0 (by simp)
  have k1 : W1.cell? ⟨w.heap.size, 1, none⟩ = some (.int .i64 at_) := b0.2 1 (by simp)
  have k2 : W1.cell? ⟨w.heap.size, 2, none⟩ = some (.int .i64 fr) := b0.2 2 (by simp)
  have k3 : W1.cell? ⟨w.heap.size, 3, none⟩ = some (.float .f64 z0) := b0.2 3 (by simp)
  have k4 : W1.cell? ⟨w.heap.size, 4, none⟩ = some (.float .f64 z1) := b0.2 4 (by simp)
  have hT : turnAllC (xs.map Phasor.rd) [⟨kd, at_, fr, z0, z1⟩] = turnC (xs.map Phasor.rd) kd at_ fr (rd z0, rd z1) := turnAll_one _ _
  go_enter Try.func27, Try.ntmps27
  go_wp2_with fail
  have hA := (Below.refl W1.heap.size W1).alloc (Nat.le_refl _) (.cells #[.int .i64 kd, .int .i64 at_, .int .i64 fr, .float .f64 z0, .float .f64 z1] 51)
  have hBA := hB1.trans (hA.mono hB1.size)
  have hR : Turn4s (W1.alloc (.cells #[.int .i64 kd, .int .i64 at_, .int .i64 fr, .float .f64 z0, .float .f64 z1] 51)) (.slice (some ⟨W1.heap.size, 0, none⟩) 1 1) [⟨kd, at_, fr, z0, z1⟩] := Flat.of_owns (owns_litN W1 51 5 1 #[.int .i64 kd, .int .i64 at_, .int .i64 fr, .float .f64 z0, .float .f64 z1] 0 (Nat.zero_le _) (by simp) (by decide))
  refine (impl_TurnAll _ xs _ [⟨kd, at_, fr, z0, z1⟩] _ (Flat.below h hBA) hx hR (by simp)).mono ?_
  rintro e w3 ⟨v', ys, rfl, hy, o, hyl, b3⟩
  rw [hT] at hy
  have hs := hBA.size
  go_wp2
  go_ret2
  exact ⟨_, ys, rfl, hy, owns_mono o hs, hyl, hBA.trans (b3.mono hs)⟩
end Go.Proofs.Ytjcnoogloncbbaa
