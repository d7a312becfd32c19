/- FnExactPhTimes, walked. -/
import Derived.Test.YtjcnoogloncbbaaS4
import Derived.Test.YtjcnoogloncbbaaI4
import Derived.Test.YtjcnoogloncbbaaBx
import Derived.Deep.RegionHeld3
import Derived.StillTailTactics
import Derived.Deep.DrawnRows
namespace Go.Proofs.Ytjcnoogloncbbaa
set_option maxRecDepth 100000
open Go.RowKit Go.Proofs Go.Own
set_option linter.unusedVariables false
set_option linter.unusedSimpArgs false
theorem box2 {W : World} {B : Nat} {u v : Value} (h : B < W.heap.size) (c0 : W.cell? ⟨B, 0, none⟩ = some u) (c1 : W.cell? ⟨B, 1, none⟩ = some v) : Box W B [u, v] :=
  ⟨h, fun j hj => by
    match j, hj with
    | 0, _ => exact c0
    | 1, _ => exact c1⟩
theorem tail_use {K : Act → World → Prop} {W W' : World} {w : World} {a b c d : Nat} {u : Act} {A1 A2 : Nat} (hB : Below w.heap.size w W) (b0 : Box W A1 [.float .f64 a, .float .f64 b]) (b1 : Box W A2 [.float .f64 c, .float .f64 d]) (h : Below W.heap.size W W')
    (k : Below w.heap.size w W' → Box W' A1 [.float .f64 a, .float .f64 b] → Box W' A2 [.float .f64 c, .float .f64 d] → K u W') : K u W' := k (hB.trans (h.mono hB.size)) (b0.below h) (b1.below h)
theorem keep4 {W w' : World} {A B : Nat} {a b c d : Nat} (b0 : Box W A [.float .f64 a, .float .f64 b]) (b1 : Box W B [.float .f64 c, .float .f64 d]) (h : Below W.heap.size W w') :
    w'.cell? ⟨A, 0, none⟩ = some (.float .f64 a) ∧ w'.cell? ⟨A, 1, none⟩ = some (.float .f64 b) ∧ w'.cell? ⟨B, 0, none⟩ = some (.float .f64 c) ∧ w'.cell? ⟨B, 1, none⟩ = some (.float .f64 d) :=
  ⟨(b0.below h).2 0 (by simp), (b0.below h).2 1 (by simp), (b1.below h).2 0 (by simp), (b1.below h).2 1 (by simp)⟩
set_option maxRecDepth 100000 in
set_option maxHeartbeats 8000000 in
theorem law_PhTimes (o p : Phasor) (w : World) :
    Calls Try.prog 5 #[o.val, p.val] w fun e w' => e = .returned (.bool true) ∧ Below w.heap.size w w' := by
  obtain ⟨a, b⟩ := o
  obtain ⟨c, d⟩ := p
  unfold Phasor.val
  dsimp only
  go_enter Try.func5, Try.ntmps5
  go_wp2_with fail
  rename_i Q K hK
  have tail : ∀ (B x1 y1 : Nat) (W : World), (rd x1, rd y1) = timesR (rd a, rd b) (rd c, rd d) → Below w.heap.size w W → Box W w.heap.size [.float .f64 a, .float .f64 b] → Box W (w.heap.size + 1) [.float .f64 c, .float .f64 d] → Box W B [.float .f64 x1, .float .f64 y1] → K ⟨#[.agg #[.float .f64 a, .float .f64 b], .agg #[.float .f64 c, .float .f64 d], Value.pointer (some ⟨w.heap.size, 0, none⟩), Value.pointer (some ⟨(w.heap.size + 1), 0, none⟩), .bool false, Value.pointer (some ⟨B, 0, none⟩), undef, .agg #[.float .f64 a, .float .f64 b], .agg #[.float .f64 a, .float .f64 b], .agg #[.float .f64 c, .float .f64 d], .agg #[.float .f64 c, .float .f64 d], .agg #[.float .f64 x1, .float .f64 y1], undef, undef, undef, undef, undef, undef, undef, undef, undef], []⟩ W := by
    intro B x1 y1 W h1 hB b0 b1 b2
    have k0 : W.cell? ⟨w.heap.size, 0, none⟩ = some (.float .f64 a) := b0.2 0 (by simp)
    have k1 : W.cell? ⟨w.heap.size, 1, none⟩ = some (.float .f64 b) := b0.2 1 (by simp)
    have k2 : W.cell? ⟨w.heap.size + 1, 0, none⟩ = some (.float .f64 c) := b1.2 0 (by simp)
    have k3 : W.cell? ⟨w.heap.size + 1, 1, none⟩ = some (.float .f64 d) := b1.2 1 (by simp)
    go_wp2_with fail
    rename_i K2 hK2
    have tail2 : ∀ (B2 x2 y2 : Nat) (W2 : World), (rd x2, rd y2) = timesR (rd a, rd b) (rd c, rd d) → Below W.heap.size W W2 → Box W2 B2 [.float .f64 x2, .float .f64 y2] → K2 ⟨#[.agg #[.float .f64 a, .float .f64 b], .agg #[.float .f64 c, .float .f64 d], Value.pointer (some ⟨w.heap.size, 0, none⟩), Value.pointer (some ⟨(w.heap.size + 1), 0, none⟩), .bool false, Value.pointer (some ⟨B, 0, none⟩), Value.pointer (some ⟨B2, 0, none⟩), .agg #[.float .f64 a, .float .f64 b], .agg #[.float .f64 a, .float .f64 b], .agg #[.float .f64 c, .float .f64 d], .agg #[.float .f64 c, .float .f64 d], .agg #[.float .f64 x1, .float .f64 y1], .agg #[.float .f64 a, .float .f64 b], .agg #[.float .f64 a, .float .f64 b], .agg #[.float .f64 c, .float .f64 d], .agg #[.float .f64 c, .float .f64 d], .agg #[.float .f64 x2, .float .f64 y2], undef, undef, undef, undef], []⟩ W2 := by
      intro B2 x2 y2 W2 h2 hB2 b3
      have b4 := b2.below hB2
      have k0 : W2.cell? ⟨B, 0, none⟩ = some (.float .f64 x1) := b4.2 0 (by simp)
      have k1 : W2.cell? ⟨B, 1, none⟩ = some (.float .f64 y1) := b4.2 1 (by simp)
      have k2 : W2.cell? ⟨B2, 0, none⟩ = some (.float .f64 x2) := b3.2 0 (by simp)
      have k3 : W2.cell? ⟨B2, 1, none⟩ = some (.float .f64 y2) := b3.2 1 (by simp)
      go_wp2_with fail
      refine (eqPhasor_c ⟨x2, y2⟩ ⟨x1, y1⟩ (h2.trans h1.symm) _).mono ?_
      rintro e w3 ⟨rfl, b5⟩
      go_wp2
      go_ret
      exact ⟨rfl, (hB.trans (hB2.mono hB.size)).trans (b5.mono (Nat.le_trans hB.size hB2.size))⟩
    go_region_held3 (fun w' => w'.cell? ⟨w.heap.size, 0, none⟩ = some (.float .f64 a) ∧ w'.cell? ⟨w.heap.size, 1, none⟩ = some (.float .f64 b) ∧ w'.cell? ⟨w.heap.size + 1, 0, none⟩ = some (.float .f64 c) ∧ w'.cell? ⟨w.heap.size + 1, 1, none⟩ = some (.float .f64 d)) (exact keep4 b0 b1 (by repeat (first | exact Below.refl _ _ | refine below_drewN ?_ _ | refine Below.drew ?_ | refine Below.setCell ?_ (by simp; try omega) _ | refine Below.alloc ?_ (by simp; try omega) _)))
      (first
      | (go_at_call 12; refine (toPhasor_x _ _ _).mono ?_; rintro e w' ⟨rfl, rfl⟩)
      | (go_at_call 20; refine (impl_PhTimes_x _ _ _ _ _).mono ?_; rintro e w' ⟨x, y, m, rfl, hx, rfl⟩))
    all_goals exact tail2 _ x y _ hx (by repeat (first | exact Below.refl _ _ | refine below_drewN ?_ _ | refine Below.drew ?_ | refine Below.setCell ?_ (by simp; try omega) _ | refine Below.alloc ?_ (by simp; try omega) _)) (box2 (by simp; try omega) (by simp [go_sem]) (by simp [go_sem]))
  obtain ⟨W1, hW1⟩ : ∃ X, (w.alloc (.cells #[.float .f64 a, .float .f64 b] 24)).alloc (.cells #[.float .f64 c, .float .f64 d] 24) = X := ⟨_, rfl⟩
  rw [hW1]
  have hB : Below w.heap.size w W1 := by rw [← hW1]; exact (by repeat (first | exact Below.refl _ _ | refine below_drewN ?_ _ | refine Below.drew ?_ | refine Below.setCell ?_ (by simp; try omega) _ | refine Below.alloc ?_ (by simp; try omega) _))
  have b0 : Box W1 w.heap.size [.float .f64 a, .float .f64 b] := by rw [← hW1]; exact (Box.alloc _ _ _).below ((Below.refl _ _).alloc (Nat.le_refl _) _)
  have b1 : Box W1 (w.heap.size + 1) [.float .f64 c, .float .f64 d] := by rw [← hW1, show w.heap.size + 1 = (w.alloc (.cells #[.float .f64 a, .float .f64 b] 24)).heap.size by simp]; exact Box.alloc _ _ _
  clear hW1
  have k0 : W1.cell? ⟨w.heap.size, 0, none⟩ = some (.float .f64 a) := b0.2 0 (by simp)
  have k1 : W1.cell? ⟨w.heap.size, 1, none⟩ = some (.float .f64 b) := b0.2 1 (by simp)
  have k2 : W1.cell? ⟨w.heap.size + 1, 0, none⟩ = some (.float .f64 c) := b1.2 0 (by simp)
  have k3 : W1.cell? ⟨w.heap.size + 1, 1, none⟩ = some (.float .f64 d) := b1.2 1 (by simp)
  go_region_held3 (fun w' => w'.cell? ⟨w.heap.size, 0, none⟩ = some (.float .f64 a) ∧ w'.cell? ⟨w.heap.size, 1, none⟩ = some (.float .f64 b) ∧ w'.cell? ⟨w.heap.size + 1, 0, none⟩ = some (.float .f64 c) ∧ w'.cell? ⟨w.heap.size + 1, 1, none⟩ = some (.float .f64 d)) (exact keep4 b0 b1 (by repeat (first | exact Below.refl _ _ | refine below_drewN ?_ _ | refine Below.drew ?_ | refine Below.setCell ?_ (by simp; try omega) _ | refine Below.alloc ?_ (by simp; try omega) _)))
    (first
    | (go_at_call 12; refine (toPhasor_x _ _ _).mono ?_; rintro e w' ⟨rfl, rfl⟩)
    | (go_at_call 19; refine (spec_PhTimes_x _ _ _ _ _).mono ?_; rintro e w' ⟨x, y, m, rfl, hx, rfl⟩))
  all_goals refine tail_use hB b0 b1 (by repeat (first | exact Below.refl _ _ | refine below_drewN ?_ _ | refine Below.drew ?_ | refine Below.setCell ?_ (by simp; try omega) _ | refine Below.alloc ?_ (by simp; try omega) _)) (fun hB b0 b1 => ?_)
  all_goals exact tail _ x y _ hx hB b0 b1 (box2 (by simp; try omega) (by simp [go_sem]) (by simp [go_sem]))
end Go.Proofs.Ytjcnoogloncbbaa
