/- Chapter 2's program: ArenaOk. -/
import Derived.Test.YtdnfphpeleakcaaI2b
import Derived.Deep.RegionLaw
import Derived.Deep.WholeRow
import Derived.Deep.RegionHeld3
import Derived.Deep.MidRow
namespace Go.Proofs.Ytdnfphpeleakcaa
set_option maxRecDepth 100000
open Go.RowKit Go.Proofs Go.Own
set_option linter.unusedVariables false
set_option linter.unusedSimpArgs false

theorem step_load_row {P : Program} {ops : Array Oper} {o : Oper} {a : Act} {w : World} {K : Act → World → Prop} {Q : Exit → Act → World → Prop} {E : Prop}
    (hw : Region.wanted o (yielded ops a.tmps) = true) (ty : TypeId) (x : Operand) (ho : o.op = .load ty x)
    (g : Nat) (hx : a.eval x = .pointer (some ⟨g, 0, none⟩)) (t : TypeId) (cs : Array Value) (fr : Nat × Nat) (d : TypeDesc) (hg : w.heap[g]? = some (.cells cs t fr))
    (hu : P.underlying ty = some d) (hd : (match d with | .struct _ | .array _ _ => true | _ => false) = true) (hi : (P.info? ty).map (·.size) = some cs.size)
    (h : K (a.put o.dst (.agg cs)) w) : if Region.wanted o (yielded ops a.tmps) = true then Oper.wp P o a w K Q else E := by
  rw [if_pos hw]
  exact wp_load_row ty x ho g hx t cs fr d hg hu hd hi h
def encL (xs : List Bool) : List Value := xs.map Value.bool
theorem rangeAt_RowB {w : World} {B : Nat} {xs : List Bool} (h : RowB w B xs) : w.rangeAt B 0 (encL xs) := by
  intro j v hj
  simp only [encL, List.getElem?_map, Option.map_eq_some_iff] at hj
  obtain ⟨b, hb, rfl⟩ := hj
  rw [Nat.zero_add]
  exact (h.cell j b hb).1
theorem rangeAt_below {N : Nat} {w w' : World} {B : Nat} {cs : List Value} (h : w.rangeAt B 0 cs) (hb : Below N w w') (hN : B < N) : w'.rangeAt B 0 cs := fun j v hj => (hb.cell (p := ⟨B, 0 + j, none⟩) hN).trans (h j v hj)
theorem infoSetL (xs : List Bool) (h : xs.length = 24) : (Try.prog.info? 93).map (·.size) = some (encL xs).length := by rw [encL, List.length_map, h]; exact infoSet
/-- What the program's test answers. -/
def progOk (bs : List Block) (ls : List Int) : Bool := inB bs.length 1 24 && bs.all blockOk && placesOk ls && (setF ls == takF bs bs.length)

set_option maxRecDepth 100000 in
set_option maxHeartbeats 2000000 in
theorem impl_ArenaOk0 (v0 : Value) (bs : List Block) (v1 : Value) (ls : List Int) (w : World) (h0 : Blocks w v0 bs) (h1 : Ints w v1 ls) :
    Calls Try.prog 39 #[.agg #[v0, v1]] w fun e w' => e = .returned (.bool (progOk bs ls)) ∧ Below w.heap.size w w' := by
  obtain ⟨a0, cap0, rfl, hl0, hm0, hc0⟩ := Blocks.open h0
  obtain ⟨a1, cap1, rfl, hl1, hm1⟩ := h1.form
  obtain ⟨W1, hW1⟩ : ∃ X, (w.alloc (.cells #[Value.slice a0 bs.length cap0, Value.slice a1 ls.length cap1] 27)) = X := ⟨_, rfl⟩
  have hB1 : Below w.heap.size w W1 := by rw [← hW1]; exact Below.alloc (Below.refl _ _) (by simp) _
  have HN := hid (show W1.heap.size = w.heap.size + 1 by rw [← hW1]; simp)
  have k0 : W1.cell? ⟨w.heap.size, 0, none⟩ = some (Value.slice a0 bs.length cap0) := by rw [← hW1]; simp [go_sem]
  have k1 : W1.cell? ⟨w.heap.size, 1, none⟩ = some (Value.slice a1 ls.length cap1) := by rw [← hW1]; simp [go_sem]
  cases hn : inB bs.length 1 24
  case false =>
    have HA : Hid (progOk bs ls = false) := hid (by simp [progOk, hn])
    clear hc0
    have hn2 : ((bs.length : Int) < 1) ∨ (¬ ((bs.length : Int) < 1) ∧ (24 : Int) < bs.length) := by simp [inB] at hn; omega
    rcases hn2 with hn2 | ⟨hn2, hn3⟩
    all_goals
      go_enter Try.func39, Try.ntmps39
      go_wp2
      go_ret
      exact ⟨ret_bool HA.out.symm, hB1⟩
  have Hn := hid hn
  have hn1 : ¬ ((bs.length : Int) < 1) := by simp [inB] at hn; omega
  have hn2 : ¬ ((24 : Int) < bs.length) := by simp [inB] at hn; omega
  clear hn
  go_enter Try.func39, Try.ntmps39
  go_wp2
  clear hW1
  go_loopw [20] (fun i wr => ∃ k : Nat, k ≤ bs.length ∧ i = .int .i64 k ∧ arenaPre bs k ∧ Below W1.heap.size W1 wr) (fun i _ => bs.length - (intOf i).toNat)
  case atStart => exact ⟨0, by omega, rfl, (by intro j _ h; omega), Below.refl _ _⟩
  case round =>
    obtain ⟨k, hk, rfl, hpre, hB⟩ := hrel
    have hz : W1.heap.size ≤ wr.heap.size := hB.size
    have hBw : Below w.heap.size w wr := hB1.trans (hB.mono (by have := HN.out; omega))
    by_cases hlt : k < bs.length
    · obtain ⟨bb, off, rfl, hbs, c0, c1, c2, c3, c4⟩ := hc0 k hlt
      have kc : ∀ o, wr.cell? ⟨bb, o, none⟩ = w.cell? ⟨bb, o, none⟩ := fun o => hBw.cell (p := ⟨bb, o, none⟩) hbs
      have hbk : ∃ o, Hid (bs[k] = o) := ⟨_, hid rfl⟩
      obtain ⟨⟨g, fr, x0, x1, x2⟩, hbk⟩ := hbk
      rw [← kc, hbk.out] at c0 c1 c2 c3 c4
      dsimp only at c0 c1 c2 c3 c4
      clear hc0 kc k0 k1
      have hno := hid (fun h : blockOk ⟨g, fr, x0, x1, x2⟩ = false => show progOk bs ls = false by
        have : bs.all blockOk = false := by rw [List.all_eq_false]; exact ⟨bs[k], List.getElem_mem hlt, by rw [hbk.out]; simp [h]⟩
        simp [progOk, this])
      have hyes := hid (fun h : blockOk ⟨g, fr, x0, x1, x2⟩ = true => arenaPre_succ hpre hlt (by rw [hbk.out]; exact h))
      have hBa := hB.alloc (Nat.le_trans (Nat.le_refl _) hz) (.cells #[.int .i64 g, .bool fr, .int .i64 x0, .int .i64 x1, .int .i64 x2] 64)
      have hsa : (wr.alloc (.cells #[.int .i64 g, .bool fr, .int .i64 x0, .int .i64 x1, .int .i64 x2] 64)).heap.size = wr.heap.size + 1 := by simp
      have Hsa := hid hsa
      clear hsa
      cases hbo : blockOk ⟨g, fr, x0, x1, x2⟩
      case false =>
        have hno2 := hid (hno.out hbo)
        go_wp2_with (go_at_call 77; refine (impl_blockOk ⟨g, fr, x0, x1, x2⟩ _).mono ?_; rintro e w2 ⟨rfl, b2⟩)
        go_ret
        exact ⟨ret_bool hno2.out.symm, Below.trans hB1 ((hBa.trans (b2.mono (by have := Hsa.out; omega))).mono (by have := HN.out; omega))⟩
      case true =>
        have hyes2 := hyes.out hbo
        go_wp2_with (go_at_call 77; refine (impl_blockOk ⟨g, fr, x0, x1, x2⟩ _).mono ?_; rintro e w2 ⟨rfl, b2⟩)
        go_roundw
        case rel => exact ⟨k+1, by omega, by go_num, hyes2, hBa.trans (b2.mono (by have := Hsa.out; omega))⟩
        case measure => simp [intOf]; omega
    · obtain rfl : k = bs.length := by omega
      have hall := hid (arenaPre_all hpre)
      have q0 : wr.cell? ⟨w.heap.size, 0, none⟩ = some (Value.slice a0 bs.length cap0) := (hB.cell (p := ⟨w.heap.size, 0, none⟩) (by have := HN.out; show w.heap.size < _; omega)).trans k0
      have q1 : wr.cell? ⟨w.heap.size, 1, none⟩ = some (Value.slice a1 ls.length cap1) := (hB.cell (p := ⟨w.heap.size, 1, none⟩) (by have := HN.out; show w.heap.size < _; omega)).trans k1
      have h0w := Blocks.below h0 hBw
      have h1w := Ints.below h1 hBw
      have hzw : w.heap.size < wr.heap.size := by have := HN.out; omega
      clear hc0 k0 k1 hpre hB
      go_wp2_with fail
      refine (impl_setOfPlaces _ _ _ h1w).mono ?_
      rintro e w2 ⟨rfl, b2⟩
      have hz2 := b2.size
      have q0' : w2.cell? ⟨w.heap.size, 0, none⟩ = some (Value.slice a0 bs.length cap0) := (b2.cell (p := ⟨w.heap.size, 0, none⟩) hzw).trans q0
      have hB2 : Below w.heap.size w w2 := hBw.trans (b2.mono (by omega))
      have h0w2 := Blocks.below h0w b2
      have hs1 : (Try.prog.info? 93).map (·.size) = some (encBs (setF ls)).size := by rw [encBs_size, setF_len]; exact infoSet
      have hs2 : (encBs zB).size = (encBs (setF ls)).size := by rw [encBs_size, encBs_size, setF_len]; rfl
      have HZ := hid hz2
      have HZw := hid hzw
      clear b2 q0 q1 h1w h0w hz2 hz hzw
      cases hok : placesOk ls
      case false =>
        have hno := hid (show progOk bs ls = false by simp [progOk, hok])
        go_wp2_with (refine wpList_store_row rfl 93 (.tmp 5) (.tmp 32) rfl _ (encBs (setF ls)) rfl rfl 93 _ (heap_alloc_new _ _) hs1 hs2 (encBs_one _) ?_)
        rw [World.setRow_alloc_new]
        go_quiet (fail)
        go_wp2
        go_ret
        exact ⟨ret_bool hno.out.symm, by repeat (first | exact hB2 | exact below_drewN (Below.alloc hB2 (by have := HZ.out; have := HZw.out; omega) _) _ | refine Below.drew ?_ | refine Below.alloc ?_ (by have := HZ.out; have := HZw.out; omega) _)⟩
      case true =>
       as_aux_lemma =>
        go_wp2_with (refine wpList_store_row rfl 93 (.tmp 5) (.tmp 32) rfl _ (encBs (setF ls)) rfl rfl 93 _ (heap_alloc_new _ _) hs1 hs2 (encBs_one _) ?_)
        rw [World.setRow_alloc_new]
        obtain ⟨W3, hW3⟩ : ∃ X, (w2.alloc (.cells (encBs (setF ls)) 93)) = X := ⟨_, rfl⟩
        have hA3 : Below w2.heap.size w2 W3 := by rw [← hW3]; exact Below.alloc (Below.refl _ _) (by simp) _
        have hr3 : RowB W3 w2.heap.size (setF ls) := by rw [← hW3]; exact RowB.alloc _ _ _ _ rfl
        have q3 : W3.cell? ⟨w.heap.size, 0, none⟩ = some (Value.slice a0 bs.length cap0) := (hA3.cell (p := ⟨w.heap.size, 0, none⟩) (by have := HZ.out; have := HZw.out; show w.heap.size < _; omega)).trans q0'
        have h0w3 := Blocks.below h0w2 hA3
        have hB3 : Below w.heap.size w W3 := hB2.trans (hA3.mono (by have := HZ.out; have := HZw.out; omega))
        have hn24 : bs.length ≤ 24 := by omega
        have hsz3 : w2.heap.size < W3.heap.size := by rw [← hW3]; simp
        have hsz4 : w.heap.size < W3.heap.size := by have := HZ.out; have := HZw.out; omega
        rw [hW3]
        have hfin := hid (show progOk bs ls = (setF ls == takF bs bs.length) by simp [progOk, hok, hall.out, Hn.out])
        have heq : ∀ w, (Op.equalIn 10000 93 (.agg (encL (setF ls)).toArray) (.agg (encBs (takF bs bs.length)))).run Try.prog w = .ok (setF ls == takF bs bs.length) w := fun w => run_equalIn_bools w 9998 _ _ 24 Try.underlying93 Try.underlying4 run_sizeBool _ _ (setF_len ls) (takF_len bs bs.length)
        have hrg := rangeAt_RowB hr3
        have hu := Try.underlying93
        have hi := infoSetL (setF ls) (setF_len ls)
        have hbd := hB3.drew
        clear hW3 h0w2 hA3 hB2 q0' hlt hn1 hn2 hok hr3 hs1 hs2 hB3
        go_region_held3 (fun w' => Below w.heap.size w w' ∧ w'.rangeAt w2.heap.size 0 (encL (setF ls)) ∧ w'.cell? ⟨w.heap.size, 0, none⟩ = some (Value.slice a0 bs.length cap0))
          (first | exact ⟨hbd, hrg, q3⟩ | assumption)
          (first
            | (go_at_call 79; refine (impl_takable _ bs _ (by exact FlatB.flat (FlatB.below h0w3 (by repeat (first | assumption | exact (Below.refl _ _).drew | exact Below.refl _ _ | refine Below.drew ?_ | refine Below.alloc ?_ (by first | omega | (simp; done) | (simp; omega)) _))) (by first | omega | (simp; done) | (simp; omega))) hn24).mono ?_; rintro e w4 ⟨rfl, b4⟩; have keep4 : Below w.heap.size w w4 ∧ w4.rangeAt w2.heap.size 0 (encL (setF ls)) ∧ w4.cell? ⟨w.heap.size, 0, none⟩ = some (Value.slice a0 bs.length cap0) := ⟨hbd.trans (b4.mono (by simp; omega)), rangeAt_below (w := W3.drew) hrg b4 (by simp; omega), (b4.cell (p := ⟨w.heap.size, 0, none⟩) (by simp; omega)).trans q3⟩))
        go_wp2
        go_ret
        exact ⟨ret_bool hfin.out.symm, And.left ‹_›⟩
end Go.Proofs.Ytdnfphpeleakcaa
