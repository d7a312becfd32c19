/- FnExactPhOver, walked. -/
import Derived.Test.YtjcnoogloncbbaaO4c
import Derived.Test.YtjcnoogloncbbaaTypes4
import Derived.Deep.RegionHeld3
import Derived.StillTailTactics
import Derived.Deep.DrawnRows
namespace Go.Proofs.Ytjcnoogloncbbaa
set_option maxRecDepth 100000
open Go.RowKit Go.Proofs Go.Own
set_option linter.unusedVariables false
set_option linter.unusedSimpArgs false
theorem set2 {w : World} {B : Nat} {x y : Value} (h0 : w.cell? ⟨B, 0, none⟩ = some (.float .f64 0)) (h1 : w.cell? ⟨B, 1, none⟩ = some (.float .f64 0)) : ((w.setCell ⟨B, 0, none⟩ x).setCell ⟨B, 1, none⟩ y).cell? ⟨B, 0, none⟩ = some x ∧ ((w.setCell ⟨B, 0, none⟩ x).setCell ⟨B, 1, none⟩ y).cell? ⟨B, 1, none⟩ = some y :=
  ⟨by rw [World.cell?_setCell_other _ _ _ _ (by simp), World.cell?_setCell_same _ _ _ h0], by rw [World.cell?_setCell_same _ _ _ (u := .float .f64 0) (by rw [World.cell?_setCell_other _ _ _ _ (by simp)]; exact h1)]⟩
theorem box2 {W : World} {B : Nat} {u v : Value} (h : B < W.heap.size) (c0 : W.cell? ⟨B, 0, none⟩ = some u) (c1 : W.cell? ⟨B, 1, none⟩ = some v) : Box W B [u, v] :=
  ⟨h, fun j hj => by
    match j, hj with
    | 0, _ => exact c0
    | 1, _ => exact c1⟩
theorem tail_use {K : Act → World → Prop} {W W' : World} {w : World} {a b c d : Nat} {u : Act} {A1 A2 : Nat} (hB : Below w.heap.size w W) (b0 : Box W A1 [.float .f64 a, .float .f64 b]) (b1 : Box W A2 [.float .f64 c, .float .f64 d]) (h : Below W.heap.size W W')
    (k : Below w.heap.size w W' → Box W' A1 [.float .f64 a, .float .f64 b] → Box W' A2 [.float .f64 c, .float .f64 d] → K u W') : K u W' := k (hB.trans (h.mono hB.size)) (b0.below h) (b1.below h)
set_option maxRecDepth 100000 in
set_option maxHeartbeats 8000000 in
theorem law_PhOver (o p : Phasor) (w : World) :
    Calls Try.prog 6 #[o.val, p.val] w fun e w' => e = .returned (.bool true) ∧ Below w.heap.size w w' := by
  obtain ⟨a, b⟩ := o
  obtain ⟨c, d⟩ := p
  unfold Phasor.val
  dsimp only
  go_enter Try.func6, Try.ntmps6
  go_wp2_with fail
  rename_i Q K hK
  have tail : ∀ (B x1 y1 : Nat) (W : World), (rd x1, rd y1) = (overC (rd a, rd b) (rd c, rd d)).1 → Below w.heap.size w W → Box W w.heap.size [.float .f64 a, .float .f64 b] → Box W (w.heap.size + 1) [.float .f64 c, .float .f64 d] → Box W B [.float .f64 x1, .float .f64 y1] → K ⟨#[.agg #[.float .f64 a, .float .f64 b], .agg #[.float .f64 c, .float .f64 d], Value.pointer (some ⟨w.heap.size, 0, none⟩), Value.pointer (some ⟨(w.heap.size + 1), 0, none⟩), .bool false, Value.pointer (some ⟨B, 0, none⟩), .bool (overC (rd a, rd b) (rd c, rd d)).2, undef, undef, .tuple #[.agg #[.float .f64 x1, .float .f64 y1], .bool (overC (rd a, rd b) (rd c, rd d)).2], .agg #[.float .f64 a, .float .f64 b], .agg #[.float .f64 a, .float .f64 b], .agg #[.float .f64 c, .float .f64 d], .agg #[.float .f64 c, .float .f64 d], .tuple #[.agg #[.float .f64 x1, .float .f64 y1], .bool (overC (rd a, rd b) (rd c, rd d)).2], .agg #[.float .f64 x1, .float .f64 y1], .bool (overC (rd a, rd b) (rd c, rd d)).2, undef, undef, undef, undef, undef, undef, undef, undef, undef, undef, undef, undef, undef, undef, undef, undef, undef], []⟩ W := by
    intro B x1 y1 W h1 hB b0 b1 b2
    have k0 : W.cell? ⟨w.heap.size, 0, none⟩ = some (.float .f64 a) := b0.2 0 (by simp)
    have k1 : W.cell? ⟨w.heap.size, 1, none⟩ = some (.float .f64 b) := b0.2 1 (by simp)
    have k2 : W.cell? ⟨w.heap.size + 1, 0, none⟩ = some (.float .f64 c) := b1.2 0 (by simp)
    have k3 : W.cell? ⟨w.heap.size + 1, 1, none⟩ = some (.float .f64 d) := b1.2 1 (by simp)
    go_wp2_with fail
    rename_i K2 hK2
    have tail2 : ∀ (B2 x2 y2 : Nat) (W2 : World), (rd x2, rd y2) = (overC (rd a, rd b) (rd c, rd d)).1 → Below W.heap.size W W2 → Box W2 B2 [.float .f64 x2, .float .f64 y2] → K2 ⟨#[.agg #[.float .f64 a, .float .f64 b], .agg #[.float .f64 c, .float .f64 d], Value.pointer (some ⟨w.heap.size, 0, none⟩), Value.pointer (some ⟨(w.heap.size + 1), 0, none⟩), .bool false, Value.pointer (some ⟨B, 0, none⟩), .bool (overC (rd a, rd b) (rd c, rd d)).2, Value.pointer (some ⟨B2, 0, none⟩), .bool (overC (rd a, rd b) (rd c, rd d)).2, .tuple #[.agg #[.float .f64 x1, .float .f64 y1], .bool (overC (rd a, rd b) (rd c, rd d)).2], .agg #[.float .f64 a, .float .f64 b], .agg #[.float .f64 a, .float .f64 b], .agg #[.float .f64 c, .float .f64 d], .agg #[.float .f64 c, .float .f64 d], .tuple #[.agg #[.float .f64 x1, .float .f64 y1], .bool (overC (rd a, rd b) (rd c, rd d)).2], .agg #[.float .f64 x1, .float .f64 y1], .bool (overC (rd a, rd b) (rd c, rd d)).2, .tuple #[.agg #[.float .f64 x2, .float .f64 y2], .bool (overC (rd a, rd b) (rd c, rd d)).2], .agg #[.float .f64 a, .float .f64 b], .agg #[.float .f64 a, .float .f64 b], .agg #[.float .f64 c, .float .f64 d], .agg #[.float .f64 c, .float .f64 d], .tuple #[.agg #[.float .f64 x2, .float .f64 y2], .bool (overC (rd a, rd b) (rd c, rd d)).2], .agg #[.float .f64 x2, .float .f64 y2], .bool (overC (rd a, rd b) (rd c, rd d)).2, undef, undef, undef, undef, undef, undef, undef, undef, undef], []⟩ W2 := by
      intro B2 x2 y2 W2 h2 hB2 b3
      have b4 := b2.below hB2
      have k0 : W2.cell? ⟨B, 0, none⟩ = some (.float .f64 x1) := b4.2 0 (by simp)
      have k1 : W2.cell? ⟨B, 1, none⟩ = some (.float .f64 y1) := b4.2 1 (by simp)
      have k2 : W2.cell? ⟨B2, 0, none⟩ = some (.float .f64 x2) := b3.2 0 (by simp)
      have k3 : W2.cell? ⟨B2, 1, none⟩ = some (.float .f64 y2) := b3.2 1 (by simp)
      go_wp2_with fail
      refine (eqPhasor_c ⟨x2, y2⟩ ⟨x1, y1⟩ (h2.trans h1.symm) _).mono ?_
      rintro e w3 ⟨rfl, b5⟩
      go_wp2
      go_ret
      exact ⟨rfl, (hB.trans (hB2.mono hB.size)).trans (b5.mono (Nat.le_trans hB.size hB2.size))⟩
    go_region_held3 (fun w' => w'.cell? ⟨w.heap.size, 0, none⟩ = some (.float .f64 a) ∧ w'.cell? ⟨w.heap.size, 1, none⟩ = some (.float .f64 b) ∧ w'.cell? ⟨w.heap.size + 1, 0, none⟩ = some (.float .f64 c) ∧ w'.cell? ⟨w.heap.size + 1, 1, none⟩ = some (.float .f64 d)) (exact keep4 b0 b1 (by repeat (first | exact Below.refl _ _ | refine below_drewN ?_ _ | refine Below.drew ?_ | refine Below.setCell ?_ (by simp; try omega) _ | refine below_alloc ?_ _ | refine below_chain ?_ (by assumption))))
      (first
      | (go_at_call 12; refine (toPhasor_x _ _ _).mono ?_; rintro e w' ⟨rfl, rfl⟩)
      | (go_at_call 22; refine (impl_PhOver _ _ _ _ _).mono ?_; rintro e w9 ⟨x, y, rfl, hx, hb⟩; have hk := (bcell hb).1; have hz := (bcell hb).2))
    all_goals exact tail2 _ x y _ hx (by repeat (first | exact Below.refl _ _ | refine below_drewN ?_ _ | refine Below.drew ?_ | refine Below.setCell ?_ (by simp; try omega) _ | refine below_alloc ?_ _ | refine below_chain ?_ (by assumption))) (box2 (by first | (simp; done) | (have h9 := hb.size; simp at h9 ⊢; omega)) (by first | (simp [go_sem]; done) | exact (set2 (by rw [hk _ _ (by simp; try omega)]; simp [go_sem]) (by rw [hk _ _ (by simp; try omega)]; simp [go_sem])).1) (by first | (simp [go_sem]; done) | exact (set2 (by rw [hk _ _ (by simp; try omega)]; simp [go_sem]) (by rw [hk _ _ (by simp; try omega)]; simp [go_sem])).2))
  obtain ⟨W1, hW1⟩ : ∃ X, (w.alloc (.cells #[.float .f64 a, .float .f64 b] 24)).alloc (.cells #[.float .f64 c, .float .f64 d] 24) = X := ⟨_, rfl⟩
  rw [hW1]
  have hB : Below w.heap.size w W1 := by rw [← hW1]; exact (by repeat (first | exact Below.refl _ _ | refine below_drewN ?_ _ | refine Below.drew ?_ | refine Below.setCell ?_ (by simp; try omega) _ | refine Below.alloc ?_ (by simp; try omega) _))
  have b0 : Box W1 w.heap.size [.float .f64 a, .float .f64 b] := by rw [← hW1]; exact (Box.alloc _ _ _).below ((Below.refl _ _).alloc (Nat.le_refl _) _)
  have b1 : Box W1 (w.heap.size + 1) [.float .f64 c, .float .f64 d] := by rw [← hW1, show w.heap.size + 1 = (w.alloc (.cells #[.float .f64 a, .float .f64 b] 24)).heap.size by simp]; exact Box.alloc _ _ _
  clear hW1
  have k0 : W1.cell? ⟨w.heap.size, 0, none⟩ = some (.float .f64 a) := b0.2 0 (by simp)
  have k1 : W1.cell? ⟨w.heap.size, 1, none⟩ = some (.float .f64 b) := b0.2 1 (by simp)
  have k2 : W1.cell? ⟨w.heap.size + 1, 0, none⟩ = some (.float .f64 c) := b1.2 0 (by simp)
  have k3 : W1.cell? ⟨w.heap.size + 1, 1, none⟩ = some (.float .f64 d) := b1.2 1 (by simp)
  go_region_held3 (fun w' => w'.cell? ⟨w.heap.size, 0, none⟩ = some (.float .f64 a) ∧ w'.cell? ⟨w.heap.size, 1, none⟩ = some (.float .f64 b) ∧ w'.cell? ⟨w.heap.size + 1, 0, none⟩ = some (.float .f64 c) ∧ w'.cell? ⟨w.heap.size + 1, 1, none⟩ = some (.float .f64 d)) (exact keep4 b0 b1 (by repeat (first | exact Below.refl _ _ | refine below_drewN ?_ _ | refine Below.drew ?_ | refine Below.setCell ?_ (by simp; try omega) _ | refine below_alloc ?_ _ | refine below_chain ?_ (by assumption))))
    (first
    | (go_at_call 12; refine (toPhasor_x _ _ _).mono ?_; rintro e w' ⟨rfl, rfl⟩)
    | (go_at_call 21; refine (spec_PhOver _ _ _ _ _).mono ?_; rintro e w9 ⟨x, y, rfl, hx, hb⟩; have hk := (bcell hb).1; have hz := (bcell hb).2))
  all_goals refine tail_use hB b0 b1 (by repeat (first | exact Below.refl _ _ | refine below_drewN ?_ _ | refine Below.drew ?_ | refine Below.setCell ?_ (by simp; try omega) _ | refine below_alloc ?_ _ | refine below_chain ?_ (by assumption))) (fun hB b0 b1 => ?_)
  all_goals exact tail _ x y _ hx hB b0 b1 (box2 (by first | (simp; done) | (have h9 := hb.size; simp at h9 ⊢; omega)) (by first | (simp [go_sem]; done) | exact (set2 (by rw [hk _ _ (by simp; try omega)]; simp [go_sem]) (by rw [hk _ _ (by simp; try omega)]; simp [go_sem])).1) (by first | (simp [go_sem]; done) | exact (set2 (by rw [hk _ _ (by simp; try omega)]; simp [go_sem]) (by rw [hk _ _ (by simp; try omega)]; simp [go_sem])).2))
end Go.Proofs.Ytjcnoogloncbbaa
