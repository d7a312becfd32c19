/- Chapter 3: a yard that a call makes, part by part, in a box. -/
import Derived.Test.YtdnfphpeleakcaaY3b
namespace Go.Proofs.Ytdnfphpeleakcaa
set_option maxRecDepth 100000
open Go.RowKit Go.Proofs Go.Own
open Go
set_option linter.unusedVariables false
set_option linter.unusedSimpArgs false

/-- A yard in a box of the call's own (block U), its four rows of the call's own too, all made from B on. -/
structure YardIn (wr : World) (B U : Nat) (vb : Value) (bs : List Block) (vl : Value) (ls : List Int) (vp : Value) (ps : List Int) (vr : Value) (gs : List Gone) (n : Int) : Prop where
  box : BoxF wr U [vb, vl, vp, vr, .int .i64 n]
  ty : ∃ arr, wr.heap[U]? = some (.cells arr 30 (0, 0))
  rb : wr.ownsRow B 64 5 vb bs.length (bs.flatMap Block.enc)
  rl : wr.ownsRow B 3 1 vl ls.length (ls.flatMap encI)
  rp : wr.ownsRow B 3 1 vp ps.length (ps.flatMap encI)
  rr : wr.ownsRow B 70 2 vr gs.length (gs.flatMap Gone.enc)
  ap : (vl.ownBlock = none ∨ vl.ownBlock ≠ vp.ownBlock) ∧ (vp.ownBlock = none ∨ vp.ownBlock ≠ vl.ownBlock)
variable {wr : World} {B U : Nat} {vb : Value} {bs : List Block} {vl : Value} {ls : List Int} {vp : Value} {ps : List Int} {vr : Value} {gs : List Gone} {n : Int}
theorem YardIn.grow {w' : World} (h : YardIn wr B U vb bs vl ls vp ps vr gs n) (hb : Below wr.heap.size wr w') : YardIn w' B U vb bs vl ls vp ps vr gs n :=
  ⟨h.box.below hb, by obtain ⟨arr, ha⟩ := h.ty; exact ⟨arr, (hb.block _ h.box.1.1).trans ha⟩, owns_below h.rb hb, owns_below h.rl hb, owns_below h.rp hb, owns_below h.rr hb, h.ap⟩
theorem ty_set {w : World} {b j : Nat} {t : TypeId} {v : Value} (h : ∃ arr, w.heap[b]? = some (.cells arr t (0, 0))) : ∃ arr, (w.setCell ⟨b, j, none⟩ v).heap[b]? = some (.cells arr t (0, 0)) := by
  obtain ⟨arr, h⟩ := h; exact ⟨_, heap_setCell_same w b j arr t v h⟩
theorem owns_out {w : World} {base e sz m : Nat} {v : Value} {cs : List Value} {b t : Nat} (h : w.ownsRow base e sz v m cs) (hb : ∃ arr, w.heap[b]? = some (.cells arr t (0, 0))) (he : e ≠ t) (j : Nat) (x : Value) : (w.setCell ⟨b, j, none⟩ x).ownsRow base e sz v m cs := by
  obtain ⟨arr, hb⟩ := hb
  exact World.ownsRow.kept h (grownBy_setCell _ _ _) (apart_ne (owns_not h hb he))
/-- Another arena is laid into it. -/
theorem YardIn.arena (h : YardIn wr B U vb bs vl ls vp ps vr gs n) {ub : Value} {bs' : List Block} {ul : Value} {ls' : List Int} (ob : wr.ownsRow B 64 5 ub bs'.length (bs'.flatMap Block.enc)) (ol : wr.ownsRow B 3 1 ul ls'.length (ls'.flatMap encI))
    (ap : (ul.ownBlock = none ∨ ul.ownBlock ≠ vp.ownBlock) ∧ (vp.ownBlock = none ∨ vp.ownBlock ≠ ul.ownBlock)) : YardIn ((wr.setCell ⟨U, 0, none⟩ ub).setCell ⟨U, 1, none⟩ ul) B U ub bs' ul ls' vp ps vr gs n := by
  have t1 := ty_set (j := 0) (v := ub) h.ty
  refine ⟨?_, ty_set t1, owns_out (owns_out ob h.ty (by decide) _ _) t1 (by decide) _ _, owns_out (owns_out ol h.ty (by decide) _ _) t1 (by decide) _ _, owns_out (owns_out h.rp h.ty (by decide) _ _) t1 (by decide) _ _, owns_out (owns_out h.rr h.ty (by decide) _ _) t1 (by decide) _ _, ap⟩
  simpa using (h.box.set 0 (by simp) ub).set 1 (by simp) ul
/-- Another list of what is retired is laid into it. -/
theorem YardIn.retired (h : YardIn wr B U vb bs vl ls vp ps vr gs n) {ur : Value} {gs' : List Gone} (o : wr.ownsRow B 70 2 ur gs'.length (gs'.flatMap Gone.enc)) : YardIn (wr.setCell ⟨U, 3, none⟩ ur) B U vb bs vl ls vp ps ur gs' n :=
  ⟨by simpa using h.box.set 3 (by simp) ur, ty_set h.ty, owns_out h.rb h.ty (by decide) _ _, owns_out h.rl h.ty (by decide) _ _, owns_out h.rp h.ty (by decide) _ _, owns_out o h.ty (by decide) _ _, h.ap⟩
theorem YardIn.passes (h : YardIn wr B U vb bs vl ls vp ps vr gs n) (m : Int) : YardIn (wr.setCell ⟨U, 4, none⟩ (.int .i64 m)) B U vb bs vl ls vp ps vr gs m :=
  ⟨by simpa using h.box.set 4 (by simp) (.int .i64 m), ty_set h.ty, owns_out h.rb h.ty (by decide) _ _, owns_out h.rl h.ty (by decide) _ _, owns_out h.rp h.ty (by decide) _ _, owns_out h.rr h.ty (by decide) _ _, h.ap⟩
/-- An append to what is retired: the others are as they were; the box still holds the elder slice. -/
theorem YardIn.append (h : YardIn wr B U vb bs vl ls vp ps vr gs n) {w' : World} {ur : Value} {gs' : List Gone} (o : w'.ownsRow B 70 2 ur gs'.length (gs'.flatMap Gone.enc)) (g : wr.grownBy w' vr.ownBlock) : YardIn (w'.setCell ⟨U, 3, none⟩ ur) B U vb bs vl ls vp ps ur gs' n := by
  have hU : ¬ vr.ownBlock = some U := fun e => by obtain ⟨arr, ha⟩ := h.ty; exact owns_not h.rr ha (by decide) U e rfl
  have hty : ∃ arr, w'.heap[U]? = some (.cells arr 30 (0, 0)) := by
    obtain ⟨arr, ha⟩ := h.ty; exact ⟨arr, (g.block _ h.box.1.1 (fun e => hU e.symm)).trans ha⟩
  have kb := World.ownsRow.kept h.rb g (apart_types h.rb h.rr (by decide)).1
  have kl := World.ownsRow.kept h.rl g (apart_types h.rl h.rr (by decide)).1
  have kp := World.ownsRow.kept h.rp g (apart_types h.rp h.rr (by decide)).1
  exact ⟨by simpa using (h.box.grown g hU).set 3 (by simp) ur, ty_set hty, owns_out kb hty (by decide) _ _, owns_out kl hty (by decide) _ _, owns_out kp hty (by decide) _ _, owns_out o hty (by decide) _ _, h.ap⟩
theorem YardIn.boxApp (h : YardIn wr B U vb bs vl ls vp ps vr gs n) {w' : World} (g : wr.grownBy w' vr.ownBlock) : BoxF w' U [vb, vl, vp, vr, .int .i64 n] :=
  h.box.grown g (fun e => by obtain ⟨arr, ha⟩ := h.ty; exact owns_not h.rr ha (by decide) U e rfl)
end Go.Proofs.Ytdnfphpeleakcaa
