/- Chapter 8's model: a stack copied; StackOk. -/
import Derived.Test.YtcafdihekamnkaaM6
import Derived.Test.YtcafdihekamnkaaF8
import Derived.Test.YtcafdihekamnkaaN8o
import Derived.Test.YtcafdihekamnkaaM4
import Derived.Test.YtcafdihekamnkaaM3
import Derived.Test.YtcafdihekamnkaaM5
import Derived.IntWalk
import Derived.Deep.CutRange
import Derived.Test.YtcafdihekamnkaaI6
import Derived.Shelf.Abstract
namespace Go.Proofs.Ytcafdihekamnkaa
set_option maxRecDepth 100000
open Go.RowKit Go.Proofs Go.Own
open Go Go.BigFrame
set_option linter.unusedVariables false
set_option linter.unusedSimpArgs false
theorem oneCell_F (xs : List Frame) : ∀ c ∈ xs.flatMap Frame.enc, c.oneCell' = true := oneCell_enc (f := Frame.enc) (by intro x c hc; simp [Frame.enc] at hc; rcases hc with rfl | rfl | rfl <;> rfl) xs
end Go.Proofs.Ytcafdihekamnkaa
/- A region in the text's order, walked as a quiet one: in all worlds grown out of W. Of any program. -/
namespace Go.Own
open Go.RowKit
theorem wpList_of_quiet {P : Program} {ops : Array Oper} {C : World → Prop} {Qa : Act → Prop} {Q : Exit → Act → World → Prop} (hQ : ∀ a' w', C w' → Qa a' → Q .normal a' w') : ∀ (l : List Oper) (a : Act) (w : World), C w → wpQuiet P ops C Qa l a → wpList P ops Q l a w
  | [], a, w, hw, h => hQ _ _ hw h
  | o :: rest, a, w, hw, h => by
    unfold wpQuiet at h
    refine wpList_step fun K hK => ?_
    split
    · rename_i hwt
      rw [if_pos hwt] at h
      obtain ⟨v, hv, hk⟩ := h
      have h1 := hv w hw
      unfold Oper.quietAt at h1
      unfold Oper.wp
      generalize (execOp a.eval o).run P w = r at *
      cases r with
      | ok n w' =>
        cases n <;> simp only [Oper.quietUpon] at h1 <;> simp only [Oper.upon]
        · obtain ⟨rfl, rfl⟩ := h1
          exact hK _ _ (wpList_of_quiet hQ rest _ _ hw hk)
        · obtain ⟨rfl, rfl⟩ := h1
          exact hK _ _ (wpList_of_quiet hQ rest _ _ hw hk)
        · obtain ⟨rfl, h1⟩ := h1
          refine h1.mono ?_
          rintro e w'' ⟨rfl, hC⟩
          exact hK _ _ (wpList_of_quiet hQ rest _ _ hC hk)
      | halt x w' => simp only [Oper.quietUpon] at h1
    · rename_i hwt
      rw [if_neg hwt] at h
      exact hK _ _ (wpList_of_quiet hQ rest _ _ hw h)
/-- A region that keeps to its order: one walk, in all worlds grown out of W. -/
theorem wp_region_ext0 {P : Program} {id : Nat} {Q : Exit → Act → World → Prop} {a : Act} {w : World} {l : List Oper} (W : World) (hW : Below W.heap.size W w)
    (h : wpQuiet P l.toArray (fun w' => ∃ e : Ext W, w' = e.w) (fun a' => ∀ w', (∃ e : Ext W, w' = e.w) → Q .normal a' w') l a) : (Code.region id l.toArray false).wp P Q a w :=
  wp_region_lit (wpList_of_quiet (fun a' w' hC h => h w' hC) l a w ⟨⟨w, hW⟩, rfl⟩ h)
end Go.Own
/- Chapter 10's model: ThreadOk. (printed by tools/mk_s10.py) -/
namespace Go.Proofs.Ytcafdihekamnkaa
set_option maxRecDepth 100000
open Go.RowKit Go.Proofs Go.Own
open Go Go.BigFrame
set_option linter.unusedVariables false
set_option linter.unusedSimpArgs false
theorem Ext.rds {α : Type} [A : Enc α] {W : World} {v : Value} {xs : List α} (h : rdsL W v xs) : ∀ e : Ext W, rdsL e.w v xs := fun e => rdsL.below h e.h
theorem spec_l1InIs (x a b : Int) (r : Bool) (w : World) (e : inB x a b = r) :
    Calls Try.prog 18 #[.int .i64 x, .int .i64 a, .int .i64 b] w fun e w' => e = .returned (.bool r) ∧ w = w' := by subst e; exact spec_l1In x a b w
theorem spec_l1ValueIs (x : Int) (r : Bool) (w : World) (e : isVal x = r) :
    Calls Try.prog 68 #[.int .i64 x] w fun e w' => e = .returned (.bool r) ∧ w = w' := by subst e; exact spec_l1Value x w
theorem spec_ProgOkIs (xs : List Instr) (v : Value) (r : Bool) (w : World) (h : rdsL w v xs) (e : progOk xs = r) :
    Calls Try.prog 37 #[v] w fun e w' => e = .returned (.bool r) ∧ Below w.heap.size w w' := by subst e; exact spec_ProgOk v xs w (rdsInstrs.1 h)
end Go.Proofs.Ytcafdihekamnkaa
/- Chapter 6's program: OpenOk, Opened. -/
/- Chapter 6's program: the place of an object; OpenOk, Opened. -/
namespace Go.Proofs.Ytcafdihekamnkaa
set_option maxRecDepth 100000
open Go.RowKit Go.Proofs Go.Own
open Go Go.BigFrame Go.Shelf
set_option linter.unusedVariables false
set_option linter.unusedSimpArgs false
end Go.Proofs.Ytcafdihekamnkaa
namespace Go.Proofs.Ytcafdihekamnkaa
set_option maxRecDepth 100000
open Go.RowKit Go.Proofs Go.Own
open Go Go.BigFrame Go.Shelf
set_option linter.unusedVariables false
set_option linter.unusedSimpArgs false
/-- A slice cut at k from its beginning. -/
theorem Entrys.cut {w : World} {v : Value} {xs : List Entry} {b off cap : Nat} (h : Entrys w v xs) (hv : v = .slice (some ⟨b, off, none⟩) xs.length cap) (k : Nat) (hk : k ≤ xs.length) : Entrys w (.slice (some ⟨b, off, none⟩) k cap) (xs.take k) := by
  obtain ⟨_, a, c, e, h1, h2, _, h3⟩ := h
  rw [hv] at e
  obtain ⟨rfl, rfl⟩ : a = some ⟨b, off, none⟩ ∧ c = cap := by simp at e; exact ⟨e.1.symm, e.2.symm⟩
  have hl : (xs.take k).length = k := by simp; omega
  have hfl := flatMap_len Entry.enc 5 (fun _ => rfl) (xs.take k)
  refine ⟨hfl, _, _, by rw [hl], by omega, h2, (by intro e; cases e), ?_⟩
  by_cases h0 : k = 0
  · exact .inl (by omega)
  · rcases h3 with h3 | ⟨b', off', ha, hs, hc⟩
    · omega
    · simp only [Option.some.injEq, Addr.mk.injEq, and_true] at ha
      obtain ⟨rfl, rfl⟩ := ha
      refine .inr ⟨b, off, rfl, hs, fun j hj => ?_⟩
      have hsplit : xs.flatMap Entry.enc = (xs.take k).flatMap Entry.enc ++ (xs.drop k).flatMap Entry.enc := by rw [← List.flatMap_append, List.take_append_drop]
      have hjx : j < (xs.flatMap Entry.enc).length := by rw [hsplit, List.length_append]; omega
      rw [hc j hjx]
      congr 1
      have : (xs.flatMap Entry.enc)[j]? = ((xs.take k).flatMap Entry.enc)[j]? := by rw [hsplit, List.getElem?_append_left hj]
      rw [List.getElem?_eq_getElem hjx, List.getElem?_eq_getElem hj] at this
      exact Option.some.inj this
end Go.Proofs.Ytcafdihekamnkaa
