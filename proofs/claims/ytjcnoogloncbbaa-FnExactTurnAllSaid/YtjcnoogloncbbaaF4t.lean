/- Turns of objects, as functions of what is read. -/
import Derived.Test.YtjcnoogloncbbaaO4b
namespace Go.Proofs.Ytjcnoogloncbbaa
set_option maxRecDepth 100000
open Go.RowKit Go.Proofs Go.Own
def Turn4.z (t : Turn4) : C := (Go.Proofs.Ytjcnoogloncbbaa.rd t.z0_, Go.Proofs.Ytjcnoogloncbbaa.rd t.z1_)
/-- One turn; nothing where it is refused. -/
def turnC (xs : List C) (kd at_ fr : Int) (z : C) : Option (List C) :=
  if xs.length ≤ 12 ∧ 0 ≤ at_ ∧ at_ < xs.length then
    if kd = 1 then some (xs.set at_.toNat z)
    else if kd = 2 then some (xs.set at_.toNat (plusR (xs.getD at_.toNat zeroC) z))
    else if kd = 3 then some (xs.set at_.toNat (timesR (xs.getD at_.toNat zeroC) z))
    else if kd = 4 then (if overOk (xs.getD at_.toNat zeroC) z = true then some (xs.set at_.toNat (overV (xs.getD at_.toNat zeroC) z)) else none)
    else if kd = 5 then some (xs.set at_.toNat (barR (xs.getD at_.toNat zeroC)))
    else if kd = 6 then (if 0 ≤ fr ∧ fr < xs.length then some (xs.set at_.toNat (timesR (xs.getD at_.toNat zeroC) (xs.getD fr.toNat zeroC))) else none)
    else none
  else none
def turnT (xs : List C) (t : Turn4) : Option (List C) := turnC xs t.kind_ t.at_ t.from_ t.z
def allC : List C → List Turn4 → Option (List C)
  | xs, [] => some xs
  | xs, t :: ts => (turnT xs t).bind fun ys => allC ys ts
def turnAllC (xs : List C) (ts : List Turn4) : Option (List C) := if ts.length ≤ 60 then allC xs ts else none
theorem turnC_len {xs ys : List C} {kd at_ fr : Int} {z : C} (h : turnC xs kd at_ fr z = some ys) : ys.length = xs.length := by
  unfold turnC at h
  repeat' split at h
  all_goals first | (cases h; done) | (obtain rfl := Option.some.inj h; simp)
theorem turnAll_one (xs : List C) (t : Turn4) : turnAllC xs [t] = turnT xs t := by
  unfold turnAllC
  rw [if_pos (by simp)]
  unfold allC
  cases turnT xs t <;> rfl
/-- A turn's way, told by what is known. -/
theorem turn_far {xs : List C} {kd at_ fr : Int} {z : C} (h : ¬ (xs.length ≤ 12 ∧ 0 ≤ at_ ∧ at_ < xs.length)) : turnC xs kd at_ fr z = none := if_neg h
theorem turn_in {xs : List C} {kd fr : Int} {a : Nat} {z : C} (h1 : xs.length ≤ 12) (h2 : a < xs.length) : turnC xs kd (a : Int) fr z =
    if kd = 1 then some (xs.set a z)
    else if kd = 2 then some (xs.set a (plusR (xs.getD a zeroC) z))
    else if kd = 3 then some (xs.set a (timesR (xs.getD a zeroC) z))
    else if kd = 4 then (if overOk (xs.getD a zeroC) z = true then some (xs.set a (overV (xs.getD a zeroC) z)) else none)
    else if kd = 5 then some (xs.set a (barR (xs.getD a zeroC)))
    else if kd = 6 then (if 0 ≤ fr ∧ fr < xs.length then some (xs.set a (timesR (xs.getD a zeroC) (xs.getD fr.toNat zeroC))) else none)
    else none := by
  unfold turnC
  rw [if_pos ⟨h1, by omega, by omega⟩]
  rfl
theorem turn_kind {xs : List C} {kd at_ fr : Int} {z : C} (h : ¬ (1 ≤ kd ∧ kd ≤ 6)) : turnC xs kd at_ fr z = none := by
  unfold turnC
  repeat' split
  all_goals first | rfl | omega
theorem turn_from {xs : List C} {kd at_ fr : Int} {z : C} (h0 : kd = 6) (h : ¬ (0 ≤ fr ∧ fr < xs.length)) : turnC xs kd at_ fr z = none := by
  unfold turnC
  repeat' split
  all_goals first | rfl | omega
theorem map_getD {xs : List Phasor} {a : Nat} (h : a < xs.length) : (xs.map Phasor.rd).getD a zeroC = xs[a].rd := by
  simp [List.getD, List.getElem?_map, List.getElem?_eq_getElem h]
theorem map_set (xs : List Phasor) (a : Nat) (o : Phasor) : (xs.set a o).map Phasor.rd = (xs.map Phasor.rd).set a o.rd := by
  simp [List.map_set]
/-- A row of objects, one of them written. -/
theorem set_ph : ∀ (xs : List Phasor) (a : Nat) (x y : Nat), a < xs.length → ((xs.flatMap Phasor.enc).set (a * 2) (.float .f64 x)).set (a * 2 + 1) (.float .f64 y) = (xs.set a ⟨x, y⟩).flatMap Phasor.enc
  | [], a, _, _, h => by simp at h
  | o :: xs, 0, x, y, _ => by simp [List.flatMap_cons, Phasor.enc]
  | o :: xs, a+1, x, y, h => by
    have ih := set_ph xs a x y (by simpa using h)
    rw [List.flatMap_cons, List.set_cons_succ, List.flatMap_cons, ← ih]
    simp [Phasor.enc, Nat.add_mul]
theorem row_put {w : World} {base e n c g : Nat} {xs : List Phasor} (h : w.ownsRow base e 2 (.slice (some ⟨g, 0, none⟩) n c) n (xs.flatMap Phasor.enc)) (a : Nat) (ha : a < xs.length) (x y : Nat) :
    ((w.setCell ⟨g, a * 2, none⟩ (.float .f64 x)).setCell ⟨g, a * 2 + 1, none⟩ (.float .f64 y)).ownsRow base e 2 (.slice (some ⟨g, 0, none⟩) n c) n ((xs.set a ⟨x, y⟩).flatMap Phasor.enc) := by
  rw [← set_ph xs a x y ha]
  exact owns_put (owns_put h _ _) _ _
/-- The cells of one object of a row of the call's own. -/
theorem row_cells {w : World} {base e n : Nat} {v : Value} {xs : List Phasor} (h : w.ownsRow base e 2 v n (xs.flatMap Phasor.enc)) (a : Nat) (ha : a < xs.length) :
    ∃ g c, v = .slice (some ⟨g, 0, none⟩) n c ∧ base ≤ g ∧ g < w.heap.size ∧ n = xs.length ∧ n ≤ c ∧ c ≤ 9223372036854775807 ∧ w.cell? ⟨g, a * 2, none⟩ = some (.float .f64 xs[a].re_) ∧ w.cell? ⟨g, a * 2 + 1, none⟩ = some (.float .f64 xs[a].im_) ∧ w.frozen? ⟨g, a * 2, none⟩ = false ∧ w.frozen? ⟨g, a * 2 + 1, none⟩ = false := by
  have hl := h.1
  have hlx : (xs.flatMap Phasor.enc).length = xs.length * 2 := flatMap_len _ 2 (fun _ => rfl) xs
  have hn : n = xs.length := by omega
  have h0 := h
  rcases h.2 with ⟨rfl, hz⟩ | ⟨g, cap, cur, rfl, hb, hg, hcn, hm, hs, ht⟩
  · omega
  · have hlt := (Array.getElem?_eq_some_iff.1 hg).1
    have hc : ∀ j, j < 2 → w.cell? ⟨g, a * 2 + j, none⟩ = (Phasor.enc xs[a])[j]? := fun j hj => by
      rw [h0.cellAt (a * 2 + j) (by omega), flatMap_get Phasor.enc 2 (fun _ => rfl) xs a ha j hj]
    have hz : ∀ j, w.frozen? ⟨g, j, none⟩ = false := fun j => frozen_of_row w g j cur _ hg
    exact ⟨g, cap, rfl, hb, hlt, hn, hcn, by unfold maxLen at hm; omega, hc 0 (by omega), hc 1 (by omega), hz _, hz _⟩
theorem g_refl (w : World) (r : Option Nat) : w.grownBy w r := World.grownBy.refl _ _
theorem g_alloc {W w : World} {r : Option Nat} (h : W.grownBy w r) (o : Obj) : W.grownBy (w.alloc o) r := grownBy_trans h (grownBy_of_below r ((Below.refl _ _).alloc (Nat.le_refl _) o))
theorem g_set {W w : World} {g : Nat} (h : W.grownBy w (some g)) (o : Nat) (v : Value) : W.grownBy (w.setCell ⟨g, o, none⟩ v) (some g) := grownBy_trans h (grownBy_setCell w ⟨g, o, none⟩ v)
theorem g_drew {W w : World} {r : Option Nat} (h : W.grownBy w r) : W.grownBy w.drew r := grownBy_drewN h 1
theorem bcell_of {W w : World} {g b : Nat} (h : W.grownBy w (some g)) (hb : b < W.heap.size) (hn : ¬ b = g) : ∀ o, w.cell? ⟨b, o, none⟩ = W.cell? ⟨b, o, none⟩ := fun o => by
  have e := h.block b hb (by intro e; exact hn (Option.some.inj e))
  unfold World.cell?
  simp only [e]
theorem g_below {W w w' : World} {r : Option Nat} (h : W.grownBy w r) (b : Below w.heap.size w w') : W.grownBy w' r := grownBy_trans h (grownBy_of_below r b)
theorem g_cell {W w : World} {g b o : Nat} {u : Option Value} (h : W.grownBy w (some g)) (hb : b < W.heap.size) (hn : ¬ b = g) (c : W.cell? ⟨b, o, none⟩ = u) : w.cell? ⟨b, o, none⟩ = u :=
  ((bcell_of h hb hn) o).trans c
theorem owns_drewN {w : World} {base e sz n : Nat} {v : Value} {cs : List Value} (h : w.ownsRow base e sz v n cs) (m : Nat) : (w.drewN m).ownsRow base e sz v n cs := h
theorem turned_fin {w W : World} {base n : Nat} {v : Value} {xs : List Phasor} {a x y : Nat} {T : Option (List C)} {z : C} (hy : T = some ((xs.map Phasor.rd).set a z)) (ho : W.ownsRow base 29 2 v n ((xs.set a ⟨x, y⟩).flatMap Phasor.enc)) (hn : n = xs.length) (hb : w.heap.size ≤ base) (hB : Below w.heap.size w W) (hz : (rd x, rd y) = z) :
    ∃ (v' : Value) (ys : List Phasor), Ending.returned (.tuple #[v, .bool true]) = .returned (.tuple #[v', .bool T.isSome]) ∧ ys.map Phasor.rd = T.getD (xs.map Phasor.rd) ∧ W.ownsRow w.heap.size 29 2 v' ys.length (ys.flatMap Phasor.enc) ∧ Below w.heap.size w W := by
  subst hn hy
  refine ⟨v, xs.set a ⟨x, y⟩, rfl, ?_, ?_, hB⟩
  · rw [map_set, ← hz]; rfl
  · rw [List.length_set]; exact owns_mono ho hb
end Go.Proofs.Ytjcnoogloncbbaa
