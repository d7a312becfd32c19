/- Chapter 15's model: TreeHigh. -/
import Derived.Test.YtcjeafhejkppeaaS15o
import Derived.Test.YtcjeafhejkppeaaF15w
namespace Go.Proofs.Ytcjeafhejkppeaa
set_option maxRecDepth 100000
open Go.RowKit Go.Proofs Go.Own
open Go Go.BigFrame
set_option linter.unusedVariables false
set_option linter.unusedSimpArgs false
theorem wpQuiet_load_box {P : Program} {ops : Array Oper} {C : World → Prop} {Qa : Act → Prop} {rest : List Oper} {op : Oper} {a : Act} (hgd : Region.wanted op (yielded ops a.tmps) = true) (ty : TypeId) (x : Operand) (ho : op.op = .load ty x)
    (b : Nat) (cs : List Value) (hb : ∀ w, C w → Box w b cs) (hx : a.eval x = .pointer (some ⟨b, 0, none⟩)) (d : TypeDesc) (hu : P.underlying ty = some d) (hd : d.isRow = true) (hi : (P.info? ty).map (·.size) = some cs.length)
    (h : wpQuiet P ops C Qa rest (a.put op.dst (.agg cs.toArray))) : wpQuiet P ops C Qa (op :: rest) a := by
  unfold wpQuiet
  rw [if_pos hgd]
  refine ⟨.agg cs.toArray, fun w hw => ?_, h⟩
  unfold Oper.quietAt execOp
  simp only [ho, hx, Instr.loadAt, Instr.sureAddr, Sem.run_bind, Sem.run_pure, Result.andThen_ok, run_loadVar_mid w b 0 ty cs d (hb w hw).range hu hd hi]
  exact ⟨rfl, rfl⟩
def highT (L : List Twig) : Nat → Int → Int
  | 0, _ => 0
  | f+1, p => if p < 0 then 0 else 1 + max (highT L f (tw L p).left_) (highT L f (tw L p).right_)
def highC (t : TreeD) : Int := if treeOk t = true then highT t.twigs_ 16 t.root_ else -1
theorem highT_le (L : List Twig) : ∀ (f : Nat) (p : Int), 0 ≤ highT L f p ∧ highT L f p ≤ f
  | 0, p => by simp [highT]
  | f+1, p => by
    unfold highT
    split
    · omega
    · have h1 := highT_le L f (tw L p).left_
      have h2 := highT_le L f (tw L p).right_
      omega
theorem spec_l1Max0 (a b : Int) (w : World) : Calls Try.prog 66 #[.int .i64 a, .int .i64 b] w fun e w' => e = .returned (.int .i64 (max a b)) ∧ w = w' := by
  by_cases h : b < a
  · go_enter Try.func66, Try.ntmps66
    go_wp2
    go_ret
    exact ⟨by rw [Int.max_eq_left (by omega)]; rfl, rfl⟩
  · go_enter Try.func66, Try.ntmps66
    go_wp2
    go_ret
    exact ⟨by rw [Int.max_eq_right (by omega)]; rfl, rfl⟩
def HighAt (L : List Twig) (root : Int) (f : Nat) : Prop := ∀ (p : Int) (xs : List Int) (w : World), Part L p xs → xs.length ≤ f →
  Calls Try.prog 48 #[.agg (encT L root).toArray, .int .i64 p] w fun e w' => e = .returned (.int .i64 (highT L f p)) ∧ Below w.heap.size w w'
set_option maxHeartbeats 4000000 in
theorem spec_high_step (L : List Twig) (hL : L.length = 16) (root : Int) (f : Nat) (hf : f ≤ 16) (ih : ∀ g, g + 1 = f → HighAt L root g) : HighAt L root f := by
  intro p xs w hp hx
  have hl : (encT L root).length = 65 := tree_len (c := ⟨L, root⟩) hL
  have hl2 : (encT L root).toArray.size = 65 := by rw [List.size_toArray, hl]
  obtain ⟨W1, hW1⟩ : ∃ X, w.alloc (.cells (encT L root).toArray 31) = X := ⟨_, rfl⟩
  have hB1 : Below w.heap.size w W1 := by rw [← hW1]; exact (Below.refl _ _).alloc (Nat.le_refl _) _
  have B1 := hid (show BoxF W1 w.heap.size (encT L root) by rw [← hW1]; exact BoxF.alloc w (encT L root).toArray 31)
  have HB1 := hid hB1
  have HW1 := hid hW1
  clear hW1 hB1
  by_cases hq : p = -1
  · subst hq
    have HR := hid (show highT L f (-1) = 0 by cases f <;> simp [highT])
    go_enter Try.func48, Try.ntmps48
    go_upto_region 1 with fail
    rw [HW1.out]
    go_wp2
    go_ret
    exact ⟨by rw [HR.out]; rfl, HB1.out⟩
  · obtain ⟨ys, zs, hi, hu, h3, h4, rfl⟩ := hp.inv hq
    simp only [List.length_append, List.length_cons] at hx
    obtain ⟨k, rfl, hk16⟩ : ∃ k : Nat, p = (k : Int) ∧ k < 16 := by
      have := inB_nn hi
      exact ⟨p.toNat, by omega, by omega⟩
    obtain ⟨g, rfl⟩ : ∃ g, f = g + 1 := by
      cases f with
      | zero => omega
      | succ g => exact ⟨g, rfl⟩
    have hk0 : (0 : Int) ≤ (k : Int) := by omega
    have hki : (k : Int) < 16 := by omega
    have hkn : ¬ (k : Int) < 0 := by omega
    obtain ⟨-, -, t2, t3⟩ := tree_at (show BoxF W1 w.heap.size (TreeD.enc ⟨L, root⟩) from B1.out) hL k hk16
    have c2 := Ext.cell B1.out.1.1 t2
    have c3 := Ext.cell B1.out.1.1 t3
    have HR := hid (show highT L (g+1) k = 1 + max (highT L g (tw L k).left_) (highT L g (tw L k).right_) by rw [highT, if_neg hkn])
    have HI := hid (ih g rfl)
    have hb1 := highT_le L g (tw L k).left_
    have hb2 := highT_le L g (tw L k).right_
    obtain ⟨X, hX⟩ : ∃ X, tw L (k : Int) = X := ⟨_, rfl⟩
    rw [hX] at c2 c3 HR hb1 hb2 h3 h4
    obtain ⟨xu, xk, xl, xr⟩ := X
    dsimp only at c2 c3 HR hb1 hb2 h3 h4
    have hm1 : 0 ≤ max (highT L g xl) (highT L g xr) := by omega
    have hm2 : max (highT L g xl) (highT L g xr) ≤ 16 := by omega
    clear hX hi hu t2 t3 ih hp hq
    go_enter Try.func48, Try.ntmps48
    go_upto_region 3 with fail
    rw [HW1.out]
    refine wp_region_ext W1 (Below.refl _ _) (by kernel_rfl) (by kernel_rfl) ?_
    (try dsimp only [List.append])
    (repeat (first | (refine wpQuiet_load_box rfl 31 _ rfl w.heap.size (encT L root) (by rintro _ ⟨E, rfl⟩; exact (B1.out.below E.h).1) rfl _ Try.underlying31 rfl (by rw [hl]; kernel_rfl) ?_; dsimp only [Act.put]; simp only [List.setIfInBounds_toArray, List.set_cons_succ, List.set_cons_zero]) | go_big_quiet_step (first | (go_at_call 48; exact call_ext _ (HI.out _ _ _ (by assumption) (by omega))) | (go_at_call 66; exact call_ext_same _ (spec_l1Max0 _ _ _)))))
    refine wpQuiet_nil ?_; rintro _ ⟨E, rfl⟩
    go_wp2
    go_ret
    exact ⟨by rw [HR.out]; rfl, HB1.out.trans (E.h.mono HB1.out.size)⟩
theorem spec_l15High0 (L : List Twig) (hL : L.length = 16) (root : Int) : ∀ (f : Nat), f ≤ 16 → HighAt L root f
  | 0, h => spec_high_step L hL root 0 h (fun g h => by omega)
  | f+1, h => spec_high_step L hL root (f+1) h (fun g e => by obtain rfl : g = f := by omega
                                                              exact spec_l15High0 L hL root g (by omega))
set_option maxHeartbeats 4000000 in
theorem spec_TreeHigh0 (c : TreeD) (hc : c.twigs_.length = 16) (w : World) :
    Calls Try.prog 28 #[.agg c.enc.toArray] w fun e w' => e = .returned (.int .i64 (highC c)) ∧ Below w.heap.size w w' := by
  obtain ⟨L, root⟩ := c
  dsimp only at hc
  change Calls Try.prog 28 #[.agg (encT L root).toArray] w _
  have hl : (encT L root).length = 65 := tree_len (c := ⟨L, root⟩) hc
  have hl2 : (encT L root).toArray.size = 65 := by rw [List.size_toArray, hl]
  have HOK0 := hid (fun (W : World) => spec_TreeOk0 ⟨L, root⟩ hc W)
  rw [show (TreeD.enc ⟨L, root⟩) = encT L root from rfl] at HOK0
  obtain ⟨W1, hW1⟩ : ∃ X, w.alloc (.cells (encT L root).toArray 31) = X := ⟨_, rfl⟩
  have HB1 := hid (show Below w.heap.size w W1 by rw [← hW1]; exact (Below.refl _ _).alloc (Nat.le_refl _) _)
  have B1 := hid (show BoxF W1 w.heap.size (encT L root) by rw [← hW1]; exact BoxF.alloc w (encT L root).toArray 31)
  have HW1 := hid hW1
  clear hW1
  cases hok : treeOk ⟨L, root⟩ with
  | false =>
    have HR := hid (show highC ⟨L, root⟩ = -1 by unfold highC; rw [hok]; rfl)
    rw [hok] at HOK0
    clear hok
    go_enter Try.func28, Try.ntmps28
    go_upto_region 1 with fail
    rw [HW1.out]
    go_wp2_with (first | (refine wpList_load_boxg rfl 31 _ rfl w.heap.size (encT L root) (by exact B1.out.1) rfl _ Try.underlying31 rfl (by rw [hl]; kernel_rfl) ?_) | (go_at_call 11; refine (HOK0.out _).mono ?_; rintro e w2 ⟨rfl, b2⟩; have HB2 := hid (HB1.out.trans (b2.mono HB1.out.size)); clear b2))
    go_ret
    exact ⟨by rw [HR.out]; rfl, HB2.out⟩
  | true =>
    obtain ⟨ps, hp, hp16⟩ := treeOk_part (t := ⟨L, root⟩) hc hok
    have HR := hid (show highC ⟨L, root⟩ = highT L 16 root by unfold highC; rw [hok]; rfl)
    have HH := hid (fun (W : World) => spec_l15High0 L hc root 16 (Nat.le_refl _) root ps W hp hp16)
    rw [hok] at HOK0
    have HC := hid hc
    clear hok hp
    go_enter Try.func28, Try.ntmps28
    go_upto_region 1 with fail
    rw [HW1.out]
    go_wp2_with (first | (refine wpList_load_boxg rfl 31 _ rfl w.heap.size (encT L root) (by exact B1.out.1) rfl _ Try.underlying31 rfl (by rw [hl]; kernel_rfl) ?_) | (go_at_call 11; refine (HOK0.out _).mono ?_; rintro e w2 ⟨rfl, b2⟩; have HB2 := hid (HB1.out.trans (b2.mono HB1.out.size)); have B1 := hid (B1.out.below b2); have k64 := tree_root (show BoxF w2 w.heap.size (TreeD.enc ⟨L, root⟩) from B1.out) HC.out; clear b2) | (go_at_call 48; refine (HH.out _).mono ?_; rintro e w3 ⟨rfl, b3⟩; have HB3 := hid (HB2.out.trans (b3.mono HB2.out.size)); clear b3))
    go_ret
    exact ⟨by rw [HR.out]; rfl, HB3.out⟩
end Go.Proofs.Ytcjeafhejkppeaa
