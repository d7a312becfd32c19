/- The program's chapter 4: one turn. -/
import Derived.Test.YtjcnoogloncbbaaI4t
namespace Go.Proofs.Ytjcnoogloncbbaa
set_option maxRecDepth 100000
open Go.RowKit Go.Proofs Go.Own
set_option linter.unusedVariables false
set_option linter.unusedSimpArgs false
attribute [local go_sem ↓] Go.wp_at_zero Go.wp_at_succ
abbrev Z := Nat × Nat
def encZ (z : Z) : List Value := [.complex .f64 z.1 z.2]
def rdZ (z : Z) : C := (rd z.1, rd z.2)
theorem set_z : ∀ (zs : List Z) (a : Nat) (z : Z), a < zs.length → (zs.flatMap encZ).set a (.complex .f64 z.1 z.2) = (zs.set a z).flatMap encZ
  | [], a, _, h => by simp at h
  | o :: zs, 0, z, _ => by simp [List.flatMap_cons, encZ]
  | o :: zs, a+1, z, h => by
    have ih := set_z zs a z (by simpa using h)
    rw [List.flatMap_cons, List.set_cons_succ, List.flatMap_cons, ← ih]
    simp [encZ]
theorem z_put {w : World} {base e n c g : Nat} {zs : List Z} (h : w.ownsRow base e 1 (.slice (some ⟨g, 0, none⟩) n c) n (zs.flatMap encZ)) (a : Nat) (ha : a < zs.length) (x y : Nat) :
    (w.setCell ⟨g, a, none⟩ (.complex .f64 x y)).ownsRow base e 1 (.slice (some ⟨g, 0, none⟩) n c) n ((zs.set a (x, y)).flatMap encZ) := by
  rw [← set_z zs a (x, y) ha]
  exact owns_put h _ _
theorem z_cells {w : World} {base e n : Nat} {v : Value} {zs : List Z} (h : w.ownsRow base e 1 v n (zs.flatMap encZ)) (h0 : 0 < zs.length) :
    ∃ g c, v = .slice (some ⟨g, 0, none⟩) n c ∧ base ≤ g ∧ g < w.heap.size ∧ n = zs.length ∧ n ≤ c ∧ c ≤ 9223372036854775807 ∧ (∀ a, (ha : a < zs.length) → w.cell? ⟨g, a, none⟩ = some (.complex .f64 zs[a].1 zs[a].2)) ∧ ∀ a, w.frozen? ⟨g, a, none⟩ = false := by
  have hl := h.1
  have hlx : (zs.flatMap encZ).length = zs.length * 1 := flatMap_len _ 1 (fun _ => rfl) zs
  have hn : n = zs.length := by omega
  have h0' := h
  rcases h.2 with ⟨rfl, hz⟩ | ⟨g, cap, cur, rfl, hb, hg, hcn, hm, hs, ht⟩
  · omega
  · have hlt := (Array.getElem?_eq_some_iff.1 hg).1
    have hc : ∀ a, (ha : a < zs.length) → w.cell? ⟨g, a, none⟩ = some (.complex .f64 zs[a].1 zs[a].2) := fun a ha => by
      have h1 := flatMap_get encZ 1 (fun _ => rfl) zs a ha 0 (by omega)
      rw [Nat.mul_one, Nat.add_zero] at h1
      rw [h0'.cellAt a (by omega), h1]; rfl
    exact ⟨g, cap, rfl, hb, hlt, hn, hcn, by unfold maxLen at hm; omega, hc, fun j => frozen_of_row w g j cur _ hg⟩
theorem zmap_getD {zs : List Z} {a : Nat} (h : a < zs.length) : (zs.map rdZ).getD a zeroC = rdZ zs[a] := by
  simp [List.getD, List.getElem?_map, List.getElem?_eq_getElem h]
def TurnR (T : Option (List C)) (base : Nat) (v : Value) (w : World) (e : Ending) (w' : World) : Prop :=
  match T with
  | some L => ∃ zs' : List Z, e = .returned (.tuple #[]) ∧ zs'.map rdZ = L ∧ w'.ownsRow base 68 1 v zs'.length (zs'.flatMap encZ) ∧ w.grownBy w' v.ownBlock
  | none => e = .panicked [refusal] ∧ Below w.heap.size w w'
theorem turnR_none {T : Option (List C)} {base : Nat} {v : Value} {w w' : World} (h : T = none) (hB : Below w.heap.size w w') : TurnR T base v w (.panicked [refusal]) w' := by subst h; exact ⟨rfl, hB⟩
theorem turnR_some {T : Option (List C)} {base n g c x y a : Nat} {zs : List Z} {z : C} {w w' : World} (h : T = some ((zs.map rdZ).set a z)) (ho : w'.ownsRow base 68 1 (.slice (some ⟨g, 0, none⟩) n c) n ((zs.set a (x, y)).flatMap encZ)) (hn : n = zs.length) (hg : w.grownBy w' (some g)) (hz : (rd x, rd y) = z) :
    TurnR T base (.slice (some ⟨g, 0, none⟩) n c) w (.returned (.tuple #[])) w' := by
  subst h hn
  refine ⟨zs.set a (x, y), rfl, ?_, by rw [List.length_set]; exact ho, hg⟩
  rw [← hz, List.map_set]; rfl
theorem in_yes4 {x a b : Int} (h : a ≤ x ∧ x ≤ b) : inB x a b = true := by simp [inB, h]
theorem in_no4 {x a b : Int} (h : ¬ (a ≤ x ∧ x ≤ b)) : inB x a b = false := by simp [inB]; omega
theorem keep5 {W w' : World} {A : Nat} {c0 c1 c2 c3 c4 : Value} (b0 : Box W A [c0, c1, c2, c3, c4]) (h : Below W.heap.size W w') :
    w'.cell? ⟨A, 1, none⟩ = some c1 ∧ w'.cell? ⟨A, 3, none⟩ = some c3 ∧ w'.cell? ⟨A, 4, none⟩ = some c4 := ⟨(b0.below h).2 1 (by simp), (b0.below h).2 3 (by simp), (b0.below h).2 4 (by simp)⟩
set_option maxHeartbeats 16000000 in
theorem impl_turn (base : Nat) (v : Value) (zs : List Z) (kd at_ fr : Int) (z0 z1 : Nat) (w : World) (o0 : w.ownsRow base 68 1 v zs.length (zs.flatMap encZ)) (hx : zs.length ≤ 1048576) :
    Calls Try.prog 56 #[v, .agg #[.int .i64 kd, .int .i64 at_, .int .i64 fr, .float .f64 z0, .float .f64 z1]] w (TurnR (turnC (zs.map rdZ) kd at_ fr (rd z0, rd z1)) base v w) := by
  obtain ⟨W1, hW1⟩ : ∃ X, w.alloc (.cells #[.int .i64 kd, .int .i64 at_, .int .i64 fr, .float .f64 z0, .float .f64 z1] 51) = X := ⟨_, rfl⟩
  have hB1 : Below w.heap.size w W1 := by rw [← hW1]; exact (Below.refl _ _).alloc (Nat.le_refl _) _
  have b0 : Box W1 w.heap.size [.int .i64 kd, .int .i64 at_, .int .i64 fr, .float .f64 z0, .float .f64 z1] := by rw [← hW1]; exact Box.alloc _ _ _
  have hs1 : W1.heap.size = w.heap.size + 1 := by rw [← hW1]; simp
  have o1 := owns_below o0 hB1
  have hml : (zs.map rdZ).length = zs.length := List.length_map _
  have k0 : W1.cell? ⟨w.heap.size, 0, none⟩ = some (.int .i64 kd) := b0.2 0 (by simp)
  have k1 : W1.cell? ⟨w.heap.size, 1, none⟩ = some (.int .i64 at_) := b0.2 1 (by simp)
  have k2 : W1.cell? ⟨w.heap.size, 2, none⟩ = some (.int .i64 fr) := b0.2 2 (by simp)
  have k3 : W1.cell? ⟨w.heap.size, 3, none⟩ = some (.float .f64 z0) := b0.2 3 (by simp)
  have k4 : W1.cell? ⟨w.heap.size, 4, none⟩ = some (.float .f64 z1) := b0.2 4 (by simp)
  have hlen : zs.length ≤ 9223372036854775807 := by omega
  obtain ⟨ad, c, hv, hcc, hcm⟩ := owns_form o0
  have l0 : w.heap.size < W1.heap.size := by omega
  have n0 : ¬ w.heap.size = W1.heap.size := by omega
  by_cases g0 : ¬ ((zs.length : Int) ≤ 12)
  · have hno : turnC (zs.map rdZ) kd at_ fr (rd z0, rd z1) = none := turn_far (by omega)
    have Hno := hid hno
    clear hno
    subst hv
    go_enter Try.func56, Try.ntmps56
    go_wp2_with (first | (go_at_call 59; refine (impl_isPlace4 _ _ _ _ _ (by omega)).mono ?_; rintro e w' ⟨rfl, rfl⟩) | (go_at_call 55; refine (impl_must_yes _).mono ?_; rintro e w' ⟨rfl, rfl⟩) | (go_at_call 55; refine (impl_must_no _).mono ?_; rintro e w' ⟨rfl, rfl⟩) | (go_at_call 44; refine (impl_times _ _ _ _ _).mono ?_; rintro e w' ⟨x, y, n, rfl, hq, rfl⟩) | (go_at_call 54; refine (impl_barred _ _ _).mono ?_; rintro e w' ⟨rfl, rfl⟩))
    exact ⟨rfl, turnR_none Hno.out (by repeat (first | exact hB1 | refine below_drewN ?_ _ | refine Below.drew ?_ | refine below_alloc ?_ _ | refine below_chain ?_ (by assumption)))⟩
  have g0' := Decidable.not_not.1 g0
  by_cases g2 : ¬ (0 ≤ at_ ∧ at_ ≤ (zs.length : Int) - 1)
  · have q2 := in_no4 g2
    have hno : turnC (zs.map rdZ) kd at_ fr (rd z0, rd z1) = none := turn_far (by omega)
    have Hno := hid hno
    clear hno
    subst hv
    go_enter Try.func56, Try.ntmps56
    go_wp2_with (first | (go_at_call 59; refine (impl_isPlace4 _ _ _ _ _ (by omega)).mono ?_; rintro e w' ⟨rfl, rfl⟩) | (go_at_call 55; refine (impl_must_yes _).mono ?_; rintro e w' ⟨rfl, rfl⟩) | (go_at_call 55; refine (impl_must_no _).mono ?_; rintro e w' ⟨rfl, rfl⟩) | (go_at_call 44; refine (impl_times _ _ _ _ _).mono ?_; rintro e w' ⟨x, y, n, rfl, hq, rfl⟩) | (go_at_call 54; refine (impl_barred _ _ _).mono ?_; rintro e w' ⟨rfl, rfl⟩))
    exact ⟨rfl, turnR_none Hno.out (by repeat (first | exact hB1 | refine below_drewN ?_ _ | refine Below.drew ?_ | refine below_alloc ?_ _ | refine below_chain ?_ (by assumption)))⟩
  obtain ⟨a, rfl⟩ := Int.eq_ofNat_of_zero_le (by omega : 0 ≤ at_)
  have ha : a < zs.length := by omega
  have h12 : (zs.map rdZ).length ≤ 12 := by omega
  have ham : a < (zs.map rdZ).length := by omega
  have q2 := in_yes4 (Decidable.not_not.1 g2)
  have i0 : (0 : Int) ≤ (a : Int) := by omega
  have i1 : (a : Int) < (zs.length : Int) := by omega
  have hy := turn_in (kd := kd) (fr := fr) (z := (rd z0, rd z1)) h12 ham
  rw [zmap_getD ha] at hy
  clear hv hcc hcm ad c
  obtain ⟨g, c, rfl, hgb, hgl, _, hnc, hcm, hcs, hfs⟩ := z_cells o0 (by omega)
  have hgl1 : g < W1.heap.size := by omega
  have ng : ¬ g = W1.heap.size := by omega
  have n0g : ¬ w.heap.size = g := by omega
  have r0 := (hB1.cell (p := ⟨g, a, none⟩) hgl).trans (hcs a ha)
  have rf0 := (hB1.frozen (p := ⟨g, a, none⟩) hgl).trans (hfs a)
  have Hy := hid hy
  clear hy
  go_enter Try.func56, Try.ntmps56
  go_wp2_with (first | (go_at_call 59; refine (impl_isPlace4 _ _ _ _ _ (by omega)).mono ?_; rintro e w' ⟨rfl, rfl⟩) | (go_at_call 55; refine (impl_must_yes _).mono ?_; rintro e w' ⟨rfl, rfl⟩) | (go_at_call 55; refine (impl_must_no _).mono ?_; rintro e w' ⟨rfl, rfl⟩) | (go_at_call 44; refine (impl_times _ _ _ _ _).mono ?_; rintro e w' ⟨x, y, n, rfl, hq, rfl⟩) | (go_at_call 54; refine (impl_barred _ _ _).mono ?_; rintro e w' ⟨rfl, rfl⟩))
  go_region_held3 (fun w' => w'.cell? ⟨w.heap.size, 1, none⟩ = some (.int .i64 (a : Int)) ∧ w'.cell? ⟨w.heap.size, 3, none⟩ = some (.float .f64 z0) ∧ w'.cell? ⟨w.heap.size, 4, none⟩ = some (.float .f64 z1)) (exact keep5 b0 (by repeat (first | exact Below.refl _ _ | refine below_drewN ?_ _ | refine Below.drew ?_ | refine below_alloc ?_ _)))
    (first | (go_at_call 41; refine (impl_numberOf _ _ _).mono ?_; rintro e w' ⟨rfl, rfl⟩))
  have hy := Hy.out
  by_cases g4 : kd = 1
  · obtain rfl : kd = 1 := g4
    rw [if_pos rfl] at hy
    clear Hy
    have Hy := hid hy
    clear hy
    go_wp2_with (first | (go_at_call 59; refine (impl_isPlace4 _ _ _ _ _ (by omega)).mono ?_; rintro e w' ⟨rfl, rfl⟩) | (go_at_call 55; refine (impl_must_yes _).mono ?_; rintro e w' ⟨rfl, rfl⟩) | (go_at_call 55; refine (impl_must_no _).mono ?_; rintro e w' ⟨rfl, rfl⟩) | (go_at_call 44; refine (impl_times _ _ _ _ _).mono ?_; rintro e w' ⟨x, y, n, rfl, hq, rfl⟩) | (go_at_call 54; refine (impl_barred _ _ _).mono ?_; rintro e w' ⟨rfl, rfl⟩))
    go_end0
    exact turnR_some Hy.out (owns_drewN (World.ownsRow.alloc (z_put o1 a ha _ _) _) 1) rfl (by repeat (first | exact g_refl _ _ | refine grownBy_drewN ?_ _ | refine g_drew ?_ | refine g_set ?_ _ _ | refine g_alloc ?_ _ | exact g_below (g_refl _ _) hB1 | refine g_below ?_ (by assumption))) (rfl)
  by_cases g4 : kd = 2
  · obtain rfl : kd = 2 := g4
    simp only [if_true, if_false, show ¬ (2 : Int) = 1 by decide] at hy
    clear Hy
    have Hy := hid hy
    clear hy
    go_wp2_with (first | (go_at_call 59; refine (impl_isPlace4 _ _ _ _ _ (by omega)).mono ?_; rintro e w' ⟨rfl, rfl⟩) | (go_at_call 55; refine (impl_must_yes _).mono ?_; rintro e w' ⟨rfl, rfl⟩) | (go_at_call 55; refine (impl_must_no _).mono ?_; rintro e w' ⟨rfl, rfl⟩) | (go_at_call 44; refine (impl_times _ _ _ _ _).mono ?_; rintro e w' ⟨x, y, n, rfl, hq, rfl⟩) | (go_at_call 54; refine (impl_barred _ _ _).mono ?_; rintro e w' ⟨rfl, rfl⟩))
    go_end0
    exact turnR_some Hy.out (owns_drewN (World.ownsRow.alloc (z_put o1 a ha _ _) _) _) rfl (by repeat (first | exact g_refl _ _ | refine grownBy_drewN ?_ _ | refine g_drew ?_ | refine g_set ?_ _ _ | refine g_alloc ?_ _ | exact g_below (g_refl _ _) hB1 | refine g_below ?_ (by assumption))) (by simp only [rd_add, rd_neg, plusR, barR, rdZ])
  by_cases g4 : kd = 3
  · obtain rfl : kd = 3 := g4
    simp only [if_true, if_false, show ¬ (3 : Int) = 1 by decide, show ¬ (3 : Int) = 2 by decide] at hy
    clear Hy
    have Hy := hid hy
    clear hy
    go_wp2_with (first | (go_at_call 59; refine (impl_isPlace4 _ _ _ _ _ (by omega)).mono ?_; rintro e w' ⟨rfl, rfl⟩) | (go_at_call 55; refine (impl_must_yes _).mono ?_; rintro e w' ⟨rfl, rfl⟩) | (go_at_call 55; refine (impl_must_no _).mono ?_; rintro e w' ⟨rfl, rfl⟩) | (go_at_call 44; refine (impl_times _ _ _ _ _).mono ?_; rintro e w' ⟨x, y, n, rfl, hq, rfl⟩) | (go_at_call 54; refine (impl_barred _ _ _).mono ?_; rintro e w' ⟨rfl, rfl⟩))
    go_end0
    exact turnR_some Hy.out (owns_drewN (World.ownsRow.alloc (z_put o1 a ha _ _) _) _) rfl (by repeat (first | exact g_refl _ _ | refine grownBy_drewN ?_ _ | refine g_drew ?_ | refine g_set ?_ _ _ | refine g_alloc ?_ _ | exact g_below (g_refl _ _) hB1 | refine g_below ?_ (by assumption))) (hq)
  by_cases g4 : kd = 5
  · obtain rfl : kd = 5 := g4
    simp only [if_true, if_false, show ¬ (5 : Int) = 1 by decide, show ¬ (5 : Int) = 2 by decide, show ¬ (5 : Int) = 3 by decide, show ¬ (5 : Int) = 4 by decide] at hy
    clear Hy
    have Hy := hid hy
    clear hy
    go_wp2_with (first | (go_at_call 59; refine (impl_isPlace4 _ _ _ _ _ (by omega)).mono ?_; rintro e w' ⟨rfl, rfl⟩) | (go_at_call 55; refine (impl_must_yes _).mono ?_; rintro e w' ⟨rfl, rfl⟩) | (go_at_call 55; refine (impl_must_no _).mono ?_; rintro e w' ⟨rfl, rfl⟩) | (go_at_call 44; refine (impl_times _ _ _ _ _).mono ?_; rintro e w' ⟨x, y, n, rfl, hq, rfl⟩) | (go_at_call 54; refine (impl_barred _ _ _).mono ?_; rintro e w' ⟨rfl, rfl⟩))
    go_end0
    exact turnR_some Hy.out (owns_drewN (World.ownsRow.alloc (z_put o1 a ha _ _) _) 1) rfl (by repeat (first | exact g_refl _ _ | refine grownBy_drewN ?_ _ | refine g_drew ?_ | refine g_set ?_ _ _ | refine g_alloc ?_ _ | exact g_below (g_refl _ _) hB1 | refine g_below ?_ (by assumption))) (by simp only [rd_add, rd_neg, plusR, barR, rdZ])
  by_cases g4 : kd = 4
  · obtain rfl : kd = 4 := g4
    simp only [if_true, if_false, show ¬ (4 : Int) = 1 by decide, show ¬ (4 : Int) = 2 by decide, show ¬ (4 : Int) = 3 by decide] at hy
    clear Hy
    have Hy := hid hy
    clear hy
    go_wp2_with (first | (go_at_call 59; refine (impl_isPlace4 _ _ _ _ _ (by omega)).mono ?_; rintro e w' ⟨rfl, rfl⟩) | (go_at_call 55; refine (impl_must_yes _).mono ?_; rintro e w' ⟨rfl, rfl⟩) | (go_at_call 55; refine (impl_must_no _).mono ?_; rintro e w' ⟨rfl, rfl⟩) | (go_at_call 44; refine (impl_times _ _ _ _ _).mono ?_; rintro e w' ⟨x, y, n, rfl, hq, rfl⟩) | (go_at_call 54; refine (impl_barred _ _ _).mono ?_; rintro e w' ⟨rfl, rfl⟩))
    refine (impl_over _ _ _ _ _).mono ?_
    rintro e w9 ⟨x, y, rfl, hq, b9⟩
    have hB9 : Below W1.heap.size W1 w9 := by repeat (first | exact Below.refl _ _ | refine below_drewN ?_ _ | refine Below.drew ?_ | refine below_alloc ?_ _ | refine below_chain ?_ b9)
    have v0 := (hB9.cell (p := ⟨g, a, none⟩) hgl1).trans r0
    have vf0 := (hB9.frozen (p := ⟨g, a, none⟩) hgl1).trans rf0
    have o9 := owns_below o1 hB9
    have hy := Hy.out
    clear Hy
    rcases bool_cases (overOk (rd zs[a].1, rd zs[a].2) (rd z0, rd z1)) with hv | hv
    · have hv1 := hv.out
      rw [if_pos (show overOk (rdZ zs[a]) (rd z0, rd z1) = true from hv1)] at hy
      have Hy := hid hy
      clear hy
      have hov := over_yes hv1
      have ho2 : (overC (rd zs[a].1, rd zs[a].2) (rd z0, rd z1)).2 = true := by rw [hov]
      rw [hov] at hq
      go_wp2_with (first | (go_at_call 59; refine (impl_isPlace4 _ _ _ _ _ (by omega)).mono ?_; rintro e w' ⟨rfl, rfl⟩) | (go_at_call 55; refine (impl_must_yes _).mono ?_; rintro e w' ⟨rfl, rfl⟩) | (go_at_call 55; refine (impl_must_no _).mono ?_; rintro e w' ⟨rfl, rfl⟩) | (go_at_call 44; refine (impl_times _ _ _ _ _).mono ?_; rintro e w' ⟨x, y, n, rfl, hq, rfl⟩) | (go_at_call 54; refine (impl_barred _ _ _).mono ?_; rintro e w' ⟨rfl, rfl⟩))
      go_end0
      exact turnR_some Hy.out (z_put o9 a ha _ _) rfl (by repeat (first | exact g_refl _ _ | refine grownBy_drewN ?_ _ | refine g_drew ?_ | refine g_set ?_ _ _ | refine g_alloc ?_ _ | exact g_below (g_refl _ _) hB1 | refine g_below ?_ (by assumption))) (hq)
    · have hv1 := hv.out
      rw [if_neg (by rw [show overOk (rdZ zs[a]) (rd z0, rd z1) = overOk (rd zs[a].1, rd zs[a].2) (rd z0, rd z1) from rfl, hv1]; decide)] at hy
      have Hy := hid hy
      clear hy
      have ho2 : (overC (rd zs[a].1, rd zs[a].2) (rd z0, rd z1)).2 = false := by rw [over_no hv1]
      go_wp2_with (first | (go_at_call 59; refine (impl_isPlace4 _ _ _ _ _ (by omega)).mono ?_; rintro e w' ⟨rfl, rfl⟩) | (go_at_call 55; refine (impl_must_yes _).mono ?_; rintro e w' ⟨rfl, rfl⟩) | (go_at_call 55; refine (impl_must_no _).mono ?_; rintro e w' ⟨rfl, rfl⟩) | (go_at_call 44; refine (impl_times _ _ _ _ _).mono ?_; rintro e w' ⟨x, y, n, rfl, hq, rfl⟩) | (go_at_call 54; refine (impl_barred _ _ _).mono ?_; rintro e w' ⟨rfl, rfl⟩))
      exact ⟨rfl, turnR_none Hy.out (hB1.trans (hB9.mono hB1.size))⟩
  by_cases g4 : kd = 6
  · obtain rfl : kd = 6 := g4
    simp only [if_true, if_false, show ¬ (6 : Int) = 1 by decide, show ¬ (6 : Int) = 2 by decide, show ¬ (6 : Int) = 3 by decide, show ¬ (6 : Int) = 4 by decide, show ¬ (6 : Int) = 5 by decide] at hy
    clear Hy
    have Hy := hid hy
    clear hy
    have hy := Hy.out
    clear Hy
    by_cases g5 : ¬ (0 ≤ fr ∧ fr ≤ (zs.length : Int) - 1)
    · have q3 := in_no4 g5
      rw [if_neg (by omega)] at hy
      have Hy := hid hy
      clear hy
      go_wp2_with (first | (go_at_call 59; refine (impl_isPlace4 _ _ _ _ _ (by omega)).mono ?_; rintro e w' ⟨rfl, rfl⟩) | (go_at_call 55; refine (impl_must_yes _).mono ?_; rintro e w' ⟨rfl, rfl⟩) | (go_at_call 55; refine (impl_must_no _).mono ?_; rintro e w' ⟨rfl, rfl⟩) | (go_at_call 44; refine (impl_times _ _ _ _ _).mono ?_; rintro e w' ⟨x, y, n, rfl, hq, rfl⟩) | (go_at_call 54; refine (impl_barred _ _ _).mono ?_; rintro e w' ⟨rfl, rfl⟩))
      exact ⟨rfl, turnR_none Hy.out (by repeat (first | exact hB1 | refine below_drewN ?_ _ | refine Below.drew ?_ | refine below_alloc ?_ _ | refine below_chain ?_ (by assumption)))⟩
    have q3 := in_yes4 (Decidable.not_not.1 g5)
    obtain ⟨b, rfl⟩ := Int.eq_ofNat_of_zero_le (by omega : 0 ≤ fr)
    have hb : b < zs.length := by omega
    rw [if_pos (by omega), show ((b : Int)).toNat = b from rfl, zmap_getD hb] at hy
    have j0 : (0 : Int) ≤ (b : Int) := by omega
    have j1 : (b : Int) < (zs.length : Int) := by omega
    have e0 := (hB1.cell (p := ⟨g, b, none⟩) hgl).trans (hcs b hb)
    have Hy := hid hy
    clear hy
    go_wp2_with (first | (go_at_call 59; refine (impl_isPlace4 _ _ _ _ _ (by omega)).mono ?_; rintro e w' ⟨rfl, rfl⟩) | (go_at_call 55; refine (impl_must_yes _).mono ?_; rintro e w' ⟨rfl, rfl⟩) | (go_at_call 55; refine (impl_must_no _).mono ?_; rintro e w' ⟨rfl, rfl⟩) | (go_at_call 44; refine (impl_times _ _ _ _ _).mono ?_; rintro e w' ⟨x, y, n, rfl, hq, rfl⟩) | (go_at_call 54; refine (impl_barred _ _ _).mono ?_; rintro e w' ⟨rfl, rfl⟩))
    go_region_with (first | (go_at_call 59; refine (impl_isPlace4 _ _ _ _ _ (by omega)).mono ?_; rintro e w' ⟨rfl, rfl⟩) | (go_at_call 55; refine (impl_must_yes _).mono ?_; rintro e w' ⟨rfl, rfl⟩) | (go_at_call 55; refine (impl_must_no _).mono ?_; rintro e w' ⟨rfl, rfl⟩) | (go_at_call 44; refine (impl_times _ _ _ _ _).mono ?_; rintro e w' ⟨x, y, n, rfl, hq, rfl⟩) | (go_at_call 54; refine (impl_barred _ _ _).mono ?_; rintro e w' ⟨rfl, rfl⟩))
    all_goals go_wp2
    all_goals go_end0
    all_goals exact turnR_some Hy.out (owns_drewN (World.ownsRow.alloc (z_put o1 a ha _ _) _) _) rfl (by repeat (first | exact g_refl _ _ | refine grownBy_drewN ?_ _ | refine g_drew ?_ | refine g_set ?_ _ _ | refine g_alloc ?_ _ | exact g_below (g_refl _ _) hB1 | refine g_below ?_ (by assumption))) (hq)
  have Hno := hid (turn_kind (xs := zs.map rdZ) (at_ := (a : Int)) (fr := fr) (z := (rd z0, rd z1)) (show ¬ (1 ≤ kd ∧ kd ≤ 6) by omega))
  clear hy Hy
  go_wp2_with (first | (go_at_call 59; refine (impl_isPlace4 _ _ _ _ _ (by omega)).mono ?_; rintro e w' ⟨rfl, rfl⟩) | (go_at_call 55; refine (impl_must_yes _).mono ?_; rintro e w' ⟨rfl, rfl⟩) | (go_at_call 55; refine (impl_must_no _).mono ?_; rintro e w' ⟨rfl, rfl⟩) | (go_at_call 44; refine (impl_times _ _ _ _ _).mono ?_; rintro e w' ⟨x, y, n, rfl, hq, rfl⟩) | (go_at_call 54; refine (impl_barred _ _ _).mono ?_; rintro e w' ⟨rfl, rfl⟩))
  exact ⟨rfl, turnR_none Hno.out (by repeat (first | exact hB1 | refine below_drewN ?_ _ | refine Below.drew ?_ | refine below_alloc ?_ _ | refine below_chain ?_ (by assumption)))⟩
end Go.Proofs.Ytjcnoogloncbbaa
