/- A region in the text's order, walked as a quiet one: in all worlds grown out of W. Of any program. -/
import Derived.Test.YtdgmbcmgjadoiaaExt
namespace Go.Own
open Go.RowKit
theorem wpList_of_quiet {P : Program} {ops : Array Oper} {C : World → Prop} {Qa : Act → Prop} {Q : Exit → Act → World → Prop} (hQ : ∀ a' w', C w' → Qa a' → Q .normal a' w') : ∀ (l : List Oper) (a : Act) (w : World), C w → wpQuiet P ops C Qa l a → wpList P ops Q l a w
  | [], a, w, hw, h => hQ _ _ hw h
  | o :: rest, a, w, hw, h => by
    unfold wpQuiet at h
    refine wpList_step fun K hK => ?_
    split
    · rename_i hwt
      rw [if_pos hwt] at h
      obtain ⟨v, hv, hk⟩ := h
      have h1 := hv w hw
      unfold Oper.quietAt at h1
      unfold Oper.wp
      generalize (execOp a.eval o).run P w = r at *
      cases r with
      | ok n w' =>
        cases n <;> simp only [Oper.quietUpon] at h1 <;> simp only [Oper.upon]
        · obtain ⟨rfl, rfl⟩ := h1
          exact hK _ _ (wpList_of_quiet hQ rest _ _ hw hk)
        · obtain ⟨rfl, rfl⟩ := h1
          exact hK _ _ (wpList_of_quiet hQ rest _ _ hw hk)
        · obtain ⟨rfl, h1⟩ := h1
          refine h1.mono ?_
          rintro e w'' ⟨rfl, hC⟩
          exact hK _ _ (wpList_of_quiet hQ rest _ _ hC hk)
      | halt x w' => simp only [Oper.quietUpon] at h1
    · rename_i hwt
      rw [if_neg hwt] at h
      exact hK _ _ (wpList_of_quiet hQ rest _ _ hw h)
/-- A region that keeps to its order: one walk, in all worlds grown out of W. -/
theorem wp_region_ext0 {P : Program} {id : Nat} {Q : Exit → Act → World → Prop} {a : Act} {w : World} {l : List Oper} (W : World) (hW : Below W.heap.size W w)
    (h : wpQuiet P l.toArray (fun w' => ∃ e : Ext W, w' = e.w) (fun a' => ∀ w', (∃ e : Ext W, w' = e.w) → Q .normal a' w') l a) : (Code.region id l.toArray false).wp P Q a w :=
  wp_region_lit (wpList_of_quiet (fun a' w' hC h => h w' hC) l a w ⟨⟨w, hW⟩, rfl⟩ h)
end Go.Own
