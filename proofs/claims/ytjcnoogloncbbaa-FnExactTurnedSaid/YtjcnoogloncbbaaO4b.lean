/- PhOver: the model's and the program's. -/
import Derived.Test.YtjcnoogloncbbaaO4
import Derived.Test.YtjcnoogloncbbaaS4
import Derived.Test.YtjcnoogloncbbaaI4
import Derived.Test.YtjcnoogloncbbaaBx
import Derived.Deep.RegionHeld3
namespace Go.Proofs.Ytjcnoogloncbbaa
set_option maxRecDepth 100000
open Go.RowKit Go.Proofs Go.Own
set_option linter.unusedVariables false
set_option linter.unusedSimpArgs false
theorem below_alloc {W w : World} (h : Below W.heap.size W w) (o : Obj) : Below W.heap.size W (w.alloc o) := h.alloc h.size _
def overS (b : C) : R := addR (mulR b.1 b.1) (mulR b.2 b.2)
def overOk (a b : C) : Bool := finR a.1 && (finR a.2 && (finR b.1 && (finR b.2 && (finR (overS b) && !eqR (overS b) (some 0)))))
def overV (a b : C) : C := (quoR (timesR a (barR b)).1 (overS b), quoR (timesR a (barR b)).2 (overS b))
def overC (a b : C) : C × Bool := if overOk a b = true then (overV a b, true) else (zeroC, false)
theorem over_no {a b : C} (h : overOk a b = false) : overC a b = (zeroC, false) := by simp [overC, h]
theorem over_yes {a b : C} (h : overOk a b = true) : overC a b = (overV a b, true) := by simp [overC, h]
def allFin : List Nat → Bool
  | [] => true
  | x :: xs => finR (rd x) && allFin xs
theorem fin_drop {xs : List Nat} {k : Nat} (h : k < xs.length) : allFin (xs.drop k) = (finR (rd xs[k]) && allFin (xs.drop (k+1))) := by rw [List.drop_eq_getElem_cons h]; rfl
set_option maxHeartbeats 4000000 in
theorem impl_areFinite (b cap : Nat) (xs : List Nat) (w : World) (hn : xs.length ≤ 1000) (hcap : xs.length ≤ cap) (hc : ∀ k, (hk : k < xs.length) → w.cell? ⟨b, k, none⟩ = some (.float .f64 xs[k])) :
    Calls Try.prog 53 #[.slice (some ⟨b, 0, none⟩) xs.length cap] w fun e w' => e = .returned (.bool (allFin xs)) ∧ w = w' := by
  have hlen : xs.length ≤ 9223372036854775807 := by omega
  go_enter Try.func53, Try.ntmps53
  go_wp2
  go_loop [7] (fun i => ∃ k : Nat, k ≤ xs.length ∧ i = .int .i64 k ∧ Same (allFin (xs.drop k)) (allFin xs)) (fun i => xs.length - (intOf i).toNat)
  case atStart => exact ⟨0, by omega, rfl, .rfl⟩
  case round =>
    obtain ⟨k, hk, rfl, hS⟩ := hrel
    by_cases hlt : k < xs.length
    · have c0 := hc k hlt
      have hS' := hS.out
      rw [fin_drop hlt, finR_rd] at hS'
      clear hc
      rcases bool_cases (infB xs[k]) with hf | hf
      · have f1 := hf.out
        rw [f1] at hS'
        go_wp2_with fail
        refine (math_IsInf _ _).mono ?_
        rintro e w' ⟨rfl, rfl⟩
        go_wp2
        go_ret
        exact ⟨ret_bool (by simpa using hS'), rfl⟩
      · have f1 := hf.out
        rcases bool_cases (nanB .f64 xs[k]) with hn2 | hn2
        · have f2 := hn2.out
          rw [f1, f2] at hS'
          go_wp2_with fail
          refine (math_IsInf _ _).mono ?_
          rintro e w' ⟨rfl, rfl⟩
          go_wp2_with fail
          refine (math_IsNaN _ _).mono ?_
          rintro e w' ⟨rfl, rfl⟩
          go_wp2
          go_ret
          exact ⟨ret_bool (by simpa using hS'), rfl⟩
        · have f2 := hn2.out
          rw [f1, f2] at hS'
          go_wp2_with fail
          refine (math_IsInf _ _).mono ?_
          rintro e w' ⟨rfl, rfl⟩
          go_wp2_with fail
          refine (math_IsNaN _ _).mono ?_
          rintro e w' ⟨rfl, rfl⟩
          go_wp2
          go_round
          case rel => exact ⟨k+1, by omega, by go_num, Same.mk (by simpa using hS')⟩
          case measure => simp [intOf]; omega
    · have hS' := hS.out
      rw [List.drop_eq_nil_of_le (by omega)] at hS'
      go_wp2
      go_ret
      exact ⟨ret_bool hS', rfl⟩
theorem box5 (W : World) (x0 x1 x2 x3 x4 : Nat) (t : TypeId) (n : Nat) : ∀ k, (hk : k < [x0, x1, x2, x3, x4].length) → ((W.alloc (.cells #[.float .f64 x0, .float .f64 x1, .float .f64 x2, .float .f64 x3, .float .f64 x4] t)).drewN n).cell? ⟨W.heap.size, k, none⟩ = some (.float .f64 [x0, x1, x2, x3, x4][k]) := by
  intro k hk
  have h := (Box.alloc W #[.float .f64 x0, .float .f64 x1, .float .f64 x2, .float .f64 x3, .float .f64 x4] t).2 k (by simpa using hk)
  rw [World.cell?_drewN, h]
  match k, hk with
  | 0, _ => rfl
  | 1, _ => rfl
  | 2, _ => rfl
  | 3, _ => rfl
  | 4, _ => rfl
set_option maxHeartbeats 4000000 in
theorem impl_over (a b c d : Nat) (w : World) :
    Calls Try.prog 46 #[.complex .f64 a b, .complex .f64 c d] w fun e w' => ∃ x y, e = .returned (.tuple #[.complex .f64 x y, .bool (overC (rd a, rd b) (rd c, rd d)).2]) ∧ (rd x, rd y) = (overC (rd a, rd b) (rd c, rd d)).1 ∧ Below w.heap.size w w' := by
  go_enter Try.func46, Try.ntmps46
  go_wp2_with fail
  refine (impl_product c c _).mono ?_
  rintro e w1 ⟨r1, n1, rfl, h1, rfl⟩
  go_wp2_with fail
  refine (impl_product d d _).mono ?_
  rintro e w2 ⟨r2, n2, rfl, h2, rfl⟩
  have hs : ∀ w, rd (fr .add .f64 r1 r2 w) = overS (rd c, rd d) := fun w => by rw [rd_add, h1, h2]; rfl
  rcases bool_cases (eqR (overS (rd c, rd d)) (some 0)) with z0 | z0
  · have ho : ∀ w, FloatKind.f64.format.order (fr .add .f64 r1 r2 w) 0 = some .eq := fun w => by
      have := z0.out; rw [← hs w, ← rd_zero] at this; unfold eqR at this; rw [← order_rd] at this; simpa using this
    have hno : overOk (rd a, rd b) (rd c, rd d) = false := by simp [overOk, z0.out]
    go_wp2
    go_ret2
    exact ⟨0, 0, by rw [over_no hno]; rfl, by rw [over_no hno, rd_zero]; rfl, (by repeat (first | exact Below.refl _ _ | refine below_drewN ?_ _ | refine Below.drew ?_ | refine Below.setCell ?_ (by simp; try omega) _ | refine Below.alloc ?_ (by simp; try omega) _))⟩
  · have ho : ∀ w, (FloatKind.f64.format.order (fr .add .f64 r1 r2 w) 0 == some .eq) = false := fun w => by
      have := z0.out; rw [← hs w, ← rd_zero] at this; unfold eqR at this; rw [← order_rd] at this; exact this
    go_wp2_with fail
    refine (impl_areFinite _ 5 [a, b, c, d, _] _ (by simp) (by simp) (box5 w a b c d _ _ _)).mono ?_
    rintro e w' ⟨rfl, rfl⟩
    have hfin : ∀ w, allFin [a, b, c, d, fr .add .f64 r1 r2 w] = overOk (rd a, rd b) (rd c, rd d) := fun w => by
      simp only [allFin, overOk, hs, z0.out, Bool.not_false, Bool.and_true]
    rcases bool_cases (overOk (rd a, rd b) (rd c, rd d)) with hk | hk
    · have hk1 := hk.out
      go_wp2_with fail
      refine (impl_barred _ _ _).mono ?_
      rintro e w' ⟨rfl, rfl⟩
      go_wp2_with fail
      refine (impl_times _ _ _ _ _).mono ?_
      rintro e w' ⟨x, y, n, rfl, hx, rfl⟩
      obtain ⟨hx1, hx2⟩ := Prod.mk.inj hx
      go_wp2
      go_ret2
      exact ⟨_, _, by rw [over_yes hk1]; rfl, by rw [over_yes hk1]; simp only [rd_quo, hs, hx1, hx2, rd_neg, overV, barR, timesR], (by repeat (first | exact Below.refl _ _ | refine below_drewN ?_ _ | refine Below.drew ?_ | refine Below.setCell ?_ (by simp; try omega) _ | refine Below.alloc ?_ (by simp; try omega) _))⟩
    · have hk1 := hk.out
      go_wp2
      go_ret2
      exact ⟨0, 0, by rw [over_no hk1]; rfl, by rw [over_no hk1, rd_zero]; rfl, (by repeat (first | exact Below.refl _ _ | refine below_drewN ?_ _ | refine Below.drew ?_ | refine Below.setCell ?_ (by simp; try omega) _ | refine Below.alloc ?_ (by simp; try omega) _))⟩
theorem keep4 {W w' : World} {A B : Nat} {a b c d : Nat} (b0 : Box W A [.float .f64 a, .float .f64 b]) (b1 : Box W B [.float .f64 c, .float .f64 d]) (h : Below W.heap.size W w') :
    w'.cell? ⟨A, 0, none⟩ = some (.float .f64 a) ∧ w'.cell? ⟨A, 1, none⟩ = some (.float .f64 b) ∧ w'.cell? ⟨B, 0, none⟩ = some (.float .f64 c) ∧ w'.cell? ⟨B, 1, none⟩ = some (.float .f64 d) :=
  ⟨(b0.below h).2 0 (by simp), (b0.below h).2 1 (by simp), (b1.below h).2 0 (by simp), (b1.below h).2 1 (by simp)⟩
theorem boxes3 (w : World) (a b c d : Nat) (s t r : TypeId) :
    ∃ W1, ((w.alloc (.cells #[.float .f64 a, .float .f64 b] s)).alloc (.cells #[.float .f64 c, .float .f64 d] t)).alloc (.cells #[.float .f64 0, .float .f64 0] r) = W1 ∧ Below w.heap.size w W1 ∧ Box W1 w.heap.size [.float .f64 a, .float .f64 b] ∧ Box W1 (w.heap.size + 1) [.float .f64 c, .float .f64 d] ∧ BoxF W1 (w.heap.size + 1 + 1) [.float .f64 0, .float .f64 0] := by
  refine ⟨_, rfl, (by repeat (first | exact Below.refl _ _ | refine below_drewN ?_ _ | refine Below.drew ?_ | refine Below.setCell ?_ (by simp; try omega) _ | refine Below.alloc ?_ (by simp; try omega) _)), ?_, ?_, ?_⟩
  · exact ((Box.alloc _ _ _).below ((Below.refl _ _).alloc (Nat.le_refl _) _)).below ((Below.refl _ _).alloc (Nat.le_refl _) _)
  · rw [show w.heap.size + 1 = (w.alloc (.cells #[.float .f64 a, .float .f64 b] s)).heap.size by simp]; exact (Box.alloc _ _ _).below ((Below.refl _ _).alloc (Nat.le_refl _) _)
  · rw [show w.heap.size + 1 + 1 = ((w.alloc (.cells #[.float .f64 a, .float .f64 b] s)).alloc (.cells #[.float .f64 c, .float .f64 d] t)).heap.size by simp]; exact BoxF.alloc _ _ _
set_option maxHeartbeats 4000000 in
theorem impl_PhOver (a b c d : Nat) (w : World) :
    Calls Try.prog 22 #[.agg #[.float .f64 a, .float .f64 b], .agg #[.float .f64 c, .float .f64 d]] w fun e w' => ∃ x y, e = .returned (.tuple #[.agg #[.float .f64 x, .float .f64 y], .bool (overC (rd a, rd b) (rd c, rd d)).2]) ∧ (rd x, rd y) = (overC (rd a, rd b) (rd c, rd d)).1 ∧ Below w.heap.size w w' := by
  go_enter Try.func22, Try.ntmps22
  go_wp2_with fail
  obtain ⟨W1, hW1, hB, b0, b1, b2⟩ := boxes3 w a b c d 29 29 29
  rw [hW1]
  clear hW1
  have k0 : W1.cell? ⟨w.heap.size, 0, none⟩ = some (.float .f64 a) := b0.2 0 (by simp)
  have k1 : W1.cell? ⟨w.heap.size, 1, none⟩ = some (.float .f64 b) := b0.2 1 (by simp)
  have k2 : W1.cell? ⟨w.heap.size + 1, 0, none⟩ = some (.float .f64 c) := b1.2 0 (by simp)
  have k3 : W1.cell? ⟨w.heap.size + 1, 1, none⟩ = some (.float .f64 d) := b1.2 1 (by simp)
  go_region_held3 (fun w' => w'.cell? ⟨w.heap.size, 0, none⟩ = some (.float .f64 a) ∧ w'.cell? ⟨w.heap.size, 1, none⟩ = some (.float .f64 b) ∧ w'.cell? ⟨w.heap.size + 1, 0, none⟩ = some (.float .f64 c) ∧ w'.cell? ⟨w.heap.size + 1, 1, none⟩ = some (.float .f64 d)) (exact keep4 b0 b1 (by repeat (first | exact Below.refl _ _ | refine below_drewN ?_ _ | refine Below.drew ?_ | refine Below.setCell ?_ (by simp; try omega) _ | refine Below.alloc ?_ (by simp; try omega) _ | refine below_chain ?_ (by assumption))))
    (first
    | (go_at_call 41; refine (impl_numberOf _ _ _).mono ?_; rintro e w' ⟨rfl, rfl⟩)
    | (go_at_call 46; refine (impl_over _ _ _ _ _).mono ?_; rintro e w9 ⟨x, y, rfl, hx, hb⟩))
  have hB9 : Below W1.heap.size W1 w9 := (by repeat (first | exact Below.refl _ _ | refine below_drewN ?_ _ | refine Below.drew ?_ | refine Below.setCell ?_ (by simp; try omega) _ | refine Below.alloc ?_ (by simp; try omega) _ | refine below_chain ?_ (by assumption)))
  have b3 := b2.below hB9
  have r0 : w9.cell? ⟨w.heap.size + 1 + 1, 0, none⟩ = some (.float .f64 0) := b3.1.2 0 (by simp)
  have r1 : w9.cell? ⟨w.heap.size + 1 + 1, 1, none⟩ = some (.float .f64 0) := b3.1.2 1 (by simp)
  have rf0 : w9.frozen? ⟨w.heap.size + 1 + 1, 0, none⟩ = false := b3.2 0 (by simp)
  have rf1 : w9.frozen? ⟨w.heap.size + 1 + 1, 1, none⟩ = false := b3.2 1 (by simp)
  have lt := b3.1.1
  have ln : ¬ w.heap.size + 1 + 1 = w9.heap.size := by omega
  clear k0 k1 k2 k3
  go_wp2_with fail
  refine (impl_phasorOf _ _ _).mono ?_
  rintro e w' ⟨rfl, rfl⟩
  go_wp2
  exact bodyPost_ret (v := .tuple #[.agg #[.float .f64 x, .float .f64 y], .bool (overC (rd a, rd b) (rd c, rd d)).2]) (by simp [results, Try.results22, go_sem, r0, r1, ln, lt]) rfl ⟨x, y, rfl, hx, (by have hs := hB.size; have hs9 := hB9.size; repeat (first | exact hB.trans (hB9.mono hB.size) | refine below_drewN ?_ _ | refine Below.setCell ?_ (by first | omega | (simp; omega) | simp) _ | refine Below.alloc ?_ (by first | omega | (simp; omega)) _))⟩
end Go.Proofs.Ytjcnoogloncbbaa
