/- Chapter 2 of the model: an arena copied. -/
import Derived.Test.YtdnfphpeleakcaaS0
import Derived.Test.YtdnfphpeleakcaaF2
import Derived.Test.YtdnfphpeleakcaaDeep2
import Derived.Test.YtdnfphpeleakcaaSl2
namespace Go.Proofs.Ytdnfphpeleakcaa
set_option maxRecDepth 100000
open Go.RowKit Go.Proofs Go.Own
set_option linter.unusedVariables false
set_option linter.unusedSimpArgs false
theorem oneCell_Block (x : Block) : ∀ c ∈ Block.enc x, c.oneCell' = true := by intro c hc; simp [Block.enc] at hc; rcases hc with rfl | rfl | rfl | rfl | rfl <;> rfl
set_option maxHeartbeats 1000000 in
theorem spec_l2Copy (v0 : Value) (bs : List Block) (v1 : Value) (ls : List Int) (w : World) (h0 : Blocks w v0 bs) (hx0 : bs.length ≤ 1048576) (h1 : Ints w v1 ls) (hx1 : ls.length ≤ 1048576) :
    Calls Try.prog 94 #[.agg #[v0, v1]] w fun e w' => ∃ u0 u1, e = .returned (.agg #[u0, u1]) ∧ w'.ownsRow w.heap.size 64 5 u0 bs.length (bs.flatMap Block.enc) ∧ w'.ownsRow w.heap.size 3 1 u1 ls.length (ls.flatMap encI) ∧ ((u0.ownBlock = none ∨ u0.ownBlock ≠ u1.ownBlock) ∧ (u1.ownBlock = none ∨ u1.ownBlock ≠ u0.ownBlock)) ∧ Below w.heap.size w w' := by
  obtain ⟨a0, cap0, rfl, hl0, hm0⟩ := h0.form
  obtain ⟨a1, cap1, rfl, hl1, hm1⟩ := h1.form
  obtain ⟨W1, hW1⟩ : ∃ X, (w.alloc (.cells #[Value.slice a0 bs.length cap0, Value.slice a1 ls.length cap1] 27)).alloc (.cells #[Value.slice none 0 0, Value.slice none 0 0] 27) = X := ⟨_, rfl⟩
  have hB1 : Below w.heap.size w W1 := by rw [← hW1]; repeat (first | exact Below.refl _ _ | refine Below.alloc ?_ (by simp; try omega) _)
  have hN : w.heap.size + 2 = W1.heap.size := by rw [← hW1]; simp
  have k0 : W1.cell? ⟨w.heap.size, 0, none⟩ = some (Value.slice a0 bs.length cap0) := by rw [← hW1]; simp [go_sem]
  have k1 : W1.cell? ⟨w.heap.size, 1, none⟩ = some (Value.slice a1 ls.length cap1) := by rw [← hW1]; simp [go_sem]
  have k2 : W1.cell? ⟨w.heap.size + 1, 0, none⟩ = some (Value.slice none 0 0) := by rw [← hW1]; simp [go_sem]
  have k3 : W1.cell? ⟨w.heap.size + 1, 1, none⟩ = some (Value.slice none 0 0) := by rw [← hW1]; simp [go_sem]
  have f2 : W1.frozen? ⟨w.heap.size + 1, 0, none⟩ = false := by rw [← hW1]; simp [go_sem]
  have f3 : W1.frozen? ⟨w.heap.size + 1, 1, none⟩ = false := by rw [← hW1]; simp [go_sem]
  replace h0 := Flat.below h0 hB1
  replace h1 := Flat.below h1 hB1
  obtain ⟨i0, hi, hz0, hz1, hz2⟩ := info_parts infoBlock
  have hone := hid (oneCell_enc oneCell_Block bs)
  have k0a : (W1.alloc (.cells #[] 64)).cell? ⟨w.heap.size, 0, none⟩ = some (Value.slice a0 bs.length cap0) := (((Below.refl _ _).alloc (Nat.le_refl _) _ : Below W1.heap.size W1 (W1.alloc (.cells #[] 64))).cell (p := ⟨w.heap.size, 0, none⟩) (by show w.heap.size < _; omega)).trans k0
  have k1a : (W1.alloc (.cells #[] 64)).cell? ⟨w.heap.size, 1, none⟩ = some (Value.slice a1 ls.length cap1) := (((Below.refl _ _).alloc (Nat.le_refl _) _ : Below W1.heap.size W1 (W1.alloc (.cells #[] 64))).cell (p := ⟨w.heap.size, 1, none⟩) (by show w.heap.size < _; omega)).trans k1
  have rowE : (W1.alloc (.cells #[] 64)).ownsRow W1.heap.size 64 5 (.slice (some ⟨W1.heap.size, 0, none⟩) 0 0) 0 [] := World.ownsRow_made _ _ _ (Nat.le_refl _) (Nat.zero_le _) rfl
  go_enter Try.func94, Try.ntmps94
  go_wp2
  clear hW1
  go_region_law (first
    | (refine step_append_flat rfl (.tmp 3) (.tmp 5) 24 rfl W1.heap.size 64 i0 (.agg #[.int .i64 0, .bool false, .int .i64 0, .int .i64 0, .int .i64 0]) 5 40 Try.underlying24 hi hz0 hz1 hz2 rfl (by decide) _ 0 [] rfl (by first | exact rowE | exact rowE3 | exact owns_below (w := (W1.alloc (.cells #[] 64)).drew) rowE ‹_›) _ bs.length _ rfl (FlatB.flat (FlatB.below h0 (by repeat (first | assumption | exact (Below.refl _ _).drew | exact Below.refl _ _ | refine Below.drew ?_ | refine Below.alloc ?_ (by first | omega | (simp; done) | (simp; omega)) _))) (by first | omega | (simp; done) | (simp; omega) | (have := Below.size ‹Below W1.heap.size W1 _›; omega) | (have := Below.size ‹Below W1.heap.size W1 _›; simp; omega))) hone.out (by unfold maxLen; omega) (by omega) (by first | omega | (simp; done) | (simp; omega) | (have := Below.size ‹Below W1.heap.size W1 _›; omega) | (have := Below.size ‹Below W1.heap.size W1 _›; simp; omega)) ?_; intro v2 w2 o2 g2 hb2'; obtain ⟨p2, m2, c2, rfl⟩ := owns_form3 o2; rw [Nat.zero_add, List.nil_append] at o2; have hb2 : Below W1.heap.size W1 w2 := Below.trans (by repeat (first | assumption | exact (Below.refl _ _).drew | exact Below.refl _ _ | refine Below.drew ?_ | refine Below.alloc ?_ (by first | omega | (simp; done) | (simp; omega)) _)) hb2'; have k02 : w2.cell? ⟨w.heap.size, 0, none⟩ = some (Value.slice a0 bs.length cap0) := (hb2.cell (p := ⟨w.heap.size, 0, none⟩) (by show w.heap.size < _; omega)).trans k0; have k12 : w2.cell? ⟨w.heap.size, 1, none⟩ = some (Value.slice a1 ls.length cap1) := (hb2.cell (p := ⟨w.heap.size, 1, none⟩) (by show w.heap.size < _; omega)).trans k1; have k22 : w2.cell? ⟨w.heap.size + 1, 0, none⟩ = some (Value.slice none 0 0) := (hb2.cell (p := ⟨w.heap.size + 1, 0, none⟩) (by show w.heap.size + 1 < _; omega)).trans k2; have k32 : w2.cell? ⟨w.heap.size + 1, 1, none⟩ = some (Value.slice none 0 0) := (hb2.cell (p := ⟨w.heap.size + 1, 1, none⟩) (by show w.heap.size + 1 < _; omega)).trans k3; have f22 : w2.frozen? ⟨w.heap.size + 1, 0, none⟩ = false := (hb2.frozen (p := ⟨w.heap.size + 1, 0, none⟩) (by show w.heap.size + 1 < _; omega)).trans f2; have f32 : w2.frozen? ⟨w.heap.size + 1, 1, none⟩ = false := (hb2.frozen (p := ⟨w.heap.size + 1, 1, none⟩) (by show w.heap.size + 1 < _; omega)).trans f3)
    | (go_simp; go_at_call 95; refine (spec_l1Copy _ ls _ (FlatB.flat (FlatB.below h1 (by repeat (first | assumption | exact (Below.refl _ _).drew | exact Below.refl _ _ | refine Below.drew ?_ | refine Below.alloc ?_ (by first | omega | (simp; done) | (simp; omega)) _))) (by first | omega | (simp; done) | (simp; omega) | (have := Below.size ‹Below W1.heap.size W1 _›; omega) | (have := Below.size ‹Below W1.heap.size W1 _›; simp; omega))) hx1).mono ?_; rintro e w3 ⟨v3, rfl, o3, b3⟩; obtain ⟨p3, m3, c3, rfl⟩ := owns_form3 o3; have hb3 : Below W1.heap.size W1 w3 := stepB (by repeat (first | assumption | exact (Below.refl _ _).drew | exact Below.refl _ _ | refine Below.drew ?_ | refine Below.alloc ?_ (by first | omega | (simp; done) | (simp; omega)) _)) (by first | omega | (simp; done) | (simp; omega) | (have := Below.size ‹Below W1.heap.size W1 _›; omega) | (have := Below.size ‹Below W1.heap.size W1 _›; simp; omega)) b3; have k03 : w3.cell? ⟨w.heap.size, 0, none⟩ = some (Value.slice a0 bs.length cap0) := (hb3.cell (p := ⟨w.heap.size, 0, none⟩) (by show w.heap.size < _; omega)).trans k0; have k13 : w3.cell? ⟨w.heap.size, 1, none⟩ = some (Value.slice a1 ls.length cap1) := (hb3.cell (p := ⟨w.heap.size, 1, none⟩) (by show w.heap.size < _; omega)).trans k1; have k23 : w3.cell? ⟨w.heap.size + 1, 0, none⟩ = some (Value.slice none 0 0) := (hb3.cell (p := ⟨w.heap.size + 1, 0, none⟩) (by show w.heap.size + 1 < _; omega)).trans k2; have k33 : w3.cell? ⟨w.heap.size + 1, 1, none⟩ = some (Value.slice none 0 0) := (hb3.cell (p := ⟨w.heap.size + 1, 1, none⟩) (by show w.heap.size + 1 < _; omega)).trans k3; have f23 : w3.frozen? ⟨w.heap.size + 1, 0, none⟩ = false := (hb3.frozen (p := ⟨w.heap.size + 1, 0, none⟩) (by show w.heap.size + 1 < _; omega)).trans f2; have f33 : w3.frozen? ⟨w.heap.size + 1, 1, none⟩ = false := (hb3.frozen (p := ⟨w.heap.size + 1, 1, none⟩) (by show w.heap.size + 1 < _; omega)).trans f3; have z3 := Below.size hb3; have k0a3 : (w3.alloc (.cells #[] 64)).cell? ⟨w.heap.size, 0, none⟩ = some (Value.slice a0 bs.length cap0) := (((Below.refl _ _).alloc (Nat.le_refl _) _ : Below w3.heap.size w3 (w3.alloc (.cells #[] 64))).cell (p := ⟨w.heap.size, 0, none⟩) (by show w.heap.size < _; omega)).trans k03; have k1a3 : (w3.alloc (.cells #[] 64)).cell? ⟨w.heap.size, 1, none⟩ = some (Value.slice a1 ls.length cap1) := (((Below.refl _ _).alloc (Nat.le_refl _) _ : Below w3.heap.size w3 (w3.alloc (.cells #[] 64))).cell (p := ⟨w.heap.size, 1, none⟩) (by show w.heap.size < _; omega)).trans k13; have rowE3 : (w3.alloc (.cells #[] 64)).ownsRow W1.heap.size 64 5 (.slice (some ⟨w3.heap.size, 0, none⟩) 0 0) 0 [] := World.ownsRow_made _ _ _ z3 (Nat.zero_le _) rfl))
  all_goals go_wp2
  all_goals refine bodyPost_ret (v := .agg #[.slice p2 m2 c2, .slice p3 m3 c3]) ?_ rfl ?_
  all_goals first
    | (simp [results, Try.results94, go_sem, k23, k33]; done)
    | (simp [results, Try.results94, go_sem, k22, k32]; done)
    | skip
  all_goals have z2 := Below.size hb2
  all_goals first
    | exact ⟨_, _, rfl, fin_box2 (by omega) (by omega) (by omega) hB1 hb3 (owns_below o2 b3) (owns_mono o3 z2) (by decide) _ _⟩
    | exact ⟨_, _, rfl, fin_box2 (by omega) (by omega) (by omega) hB1 hb2 o2 (owns_mono (World.ownsRow.kept o3 g2 (apart_types (owns_below (w := (W1.alloc (.cells #[] 64)).drew) rowE b3) o3 (by decide)).2) (by simp; try omega)) (by decide) _ _⟩
    | exact ⟨_, _, rfl, fin_box2 (by omega) (by omega) (by omega) hB1 hb2 o2 (owns_mono (World.ownsRow.kept (World.ownsRow.alloc (w := w3) o3 _) g2 (apart_types rowE3 (World.ownsRow.alloc (w := w3) o3 _) (by decide)).2) (by simp; try omega)) (by decide) _ _⟩
end Go.Proofs.Ytdnfphpeleakcaa
