/- Ranges over a function whose iterator only reads, and may be endless by itself: the caller's invariant bounds it. -/
import Derived.RangeFuncNested
import Derived.RangeFuncLeaves
import Derived.Shelf.Abstract
import Derived.WalkKit
import Derived.OwnWalkIn
import Derived.TacticsInMore
import Derived.LoopNIn
import Derived.LoopIn
import Derived.Maps.AppendAt
import Derived.Test.YtdgmbcmgjadoiaaBx
namespace Go.Own
open Go Go.RowKit
variable {F : Fence} {n : Nat} {P : Program}
/-- What an iterator promises that only reads: Pj: what the caller's invariant always gives; Nx: what is handed over next; S: when all has come. -/
def Reader {α : Type} (F : Fence) (n : Nat) (P : Program) (g : Nat) (lb : Array Value) (encs : α → Array Value) (Pj : List α → World → Prop) (Nx : List α → α → Prop) (S : List α → Prop) : Prop :=
  ∀ (l : Nat) (J Jx : List α → World → Prop) (W : World), (∀ pre V, J pre V → Pj pre V) →
    (∀ pre x V, J pre V → Nx pre x → YieldAt F (n - 1) P l (encs x) V fun e V' => (e = .returned (.bool true) ∧ J (pre ++ [x]) V') ∨ (e = .returned (.bool false) ∧ Jx (pre ++ [x]) V')) →
    J [] W → CallsIn F n P g (#[.func (.yield l) #[] #[]] ++ lb) W fun e V => (∃ v, e = .returned v) ∧ ((∃ xs, S xs ∧ J xs V) ∨ (∃ pre, Jx pre V))
/-- The loop's own two blocks. -/
structure Bk (D : Nat) (o : Obj) (W : World) : Prop where
  d : W.heap[D]? = some (.deferred (some []))
  l : W.heap[D + 1]? = some o
theorem Bk.lt {D : Nat} {o : Obj} {W : World} (h : Bk D o W) : D + 1 < W.heap.size := (Array.getElem?_eq_some_iff.1 h.l).1
theorem Bk.keep {D : Nat} {o : Obj} {W V : World} (h : Bk D o W) (ho : o.isCells = false) (k : KeepsFrom D W V) : Bk D o V :=
  ⟨k.same _ _ (Nat.le_refl _) h.d rfl, k.same _ _ (Nat.le_succ _) h.l ho⟩
theorem Bk.put {D : Nat} {o : Obj} {W : World} (h : Bk D o W) (o' : Obj) : Bk D o' (W.putObj (D + 1) o') :=
  ⟨(World.putObj_heap_other (by omega)).trans h.d, World.putObj_heap_same h.lt⟩
theorem wpIn_over {α : Type} {g : Operand} {ps : Array Tmp} {assign body : Code} {Q : Exit → Act → World → Prop} {a : Act} {w : World}
    (hro : F.round = none) (h1 : 1 ≤ n) {gf : Nat} {lb : Array Value} (hg : a.eval g = .func (.func gf) #[] lb) (hFg : F.fn gf) (eg : ∀ args w, (callFunc gf args).run P w = .ok (.enter gf args) w)
    {encs : α → Array Value} {Pj : List α → World → Prop} {Nx : List α → α → Prop} {S : List α → Prop} (hseq : Reader F (n - 1) P gf lb encs Pj Nx S) (hps : ∀ x, (encs x).size = ps.size)
    (I : List α → World → Prop) (Ix : Code → List α → World → Prop) (hI : OwnFrom w.heap.size I) (hIx : ∀ c, OwnFrom w.heap.size (Ix c)) (hP : ∀ pre V, I pre V → Pj pre V) (h0 : I [] w)
    (Ax : α → Act → World → Prop) (hAx : ∀ x a', OwnFrom w.heap.size (fun (_ : Unit) W => Ax x a' W))
    (hassign : ∀ (l : Nat) (pre : List α) (x : α) (W : World) (K : Act → World → Prop), I pre W → Nx pre x → (∀ a' V, KeepsFrom w.heap.size W V → I pre V → Ax x a' V → K a' V) →
      assign.wpIn (F.inRound l) (n - 1 - 1) P (Exit.then K (fun _ _ _ => False)) { tmps := (ps.zip (encs x)).foldl (fun t (p, v) => t.setIfInBounds p v) a.tmps, defers := [] } W)
    (hbody : ∀ (l : Nat) (pre : List α) (x : α) (a' : Act) (W : World), I pre W → Ax x a' W → Nx pre x → body.wpIn (F.inRound l) (n - 1 - 1) P (ownPostG w.heap.size (fun _ _ => True) I Ix (pre ++ [x]) W) a' W)
    (hdone : ∀ (D : Nat) (xs : List α) (W : World), w.heap.size ≤ D → S xs → I xs W → W.heap[D]? = some (.deferred (some [])) → Q .normal { a with defers := { target := .collected D, args := #[] } :: a.defers } W)
    (hstop : ∀ (D : Nat) (c : Code) (pre : List α) (W : World), w.heap.size ≤ D → Ix c pre W → W.heap[D]? = some (.deferred (some [])) → c.wpIn F n P Q { a with defers := { target := .collected D, args := #[] } :: a.defers } W) :
    (Code.rangeFunc g ps assign body).wpIn F n P Q a w := by
  refine wpIn_rangeFunc fun fn hfn => ?_
  obtain ⟨R, hR⟩ : ∃ R : LoopState → Option Code → Loop, R = fun st pe => { state := st, pending := pe, fn, tmps := a.tmps, params := ps, assign, body, defers := w.heap.size } := ⟨_, rfl⟩
  have hk0 : Bk w.heap.size (.loop (R .ready none)) ((w.alloc (.deferred (some []))).alloc (.loop (R .ready none))) := by
    have z := World.alloc_heap_new (w.alloc (.deferred (some []))) (.loop (R .ready none))
    rw [World.size_alloc] at z
    exact ⟨(Below.heap_alloc _ _ _ (by simp)).trans (World.alloc_heap_new w _), z⟩
  have hi0 := hI.alloc (.loop (R .ready none)) (hI.alloc (.deferred (some [])) h0)
  rw [hro]
  obtain ⟨W1, hW1⟩ : ∃ X, (w.alloc (.deferred (some []))).alloc (.loop (R .ready none)) = X := ⟨_, rfl⟩
  rw [hW1] at hk0 hi0
  refine ⟨w.heap.size + 1, [{ target := .collected w.heap.size, args := #[] }], W1, { target := .fn (.func gf) lb, args := #[.func (.yield (w.heap.size + 1)) #[] #[]] }, W1, gf, #[.func (.yield (w.heap.size + 1)) #[] #[]] ++ lb, W1, ?e1, ?e2, ?e3, ?e4, fun _ => h1, ?e5⟩
  case e1 => rw [← hW1, hR]; exact run_enterLoop_outer _ _ _ _ _
  case e2 => simp only [resolve, hg]; simp [go_sem]
  case e3 => intro f' hf'; simp [Target.leads] at hf'; subst hf'; exact hFg
  case e4 => simp [invoke, go_sem, eg]
  case e5 =>
    have iput : ∀ {xs : List α} {V : World} {o : Obj} (o' : Obj), I xs V → Bk w.heap.size o V → o.isCells = false → I xs (V.putObj (w.heap.size + 1) o') := fun o' hi hb ho => hI.putObj o' hi (by omega) hb.l ho
    have xput : ∀ {c : Code} {xs : List α} {V : World} {o : Obj} (o' : Obj), Ix c xs V → Bk w.heap.size o V → o.isCells = false → Ix c xs (V.putObj (w.heap.size + 1) o') := fun o' hi hb ho => (hIx _).putObj o' hi (by omega) hb.l ho
    refine (hseq (w.heap.size + 1) (fun pre V => I pre V ∧ Bk w.heap.size (.loop (R .ready none)) V) (fun pre V => ∃ c, Ix c pre V ∧ Bk w.heap.size (.loop (R .done (some c))) V) _ (fun pre V h => hP pre V h.1) ?_ ⟨hi0, hk0⟩).mono ?_
    · rintro pre x V ⟨hi, hb⟩ hx
      have hy := run_yield (P := P) (args := encs x) hb.l (by rw [hR]; exact hps x)
      rw [show (R .ready none).fn = fn by rw [hR], show (R .ready none).tmps = a.tmps by rw [hR], show (R .ready none).params = ps by rw [hR], show (R .ready none).assign = assign by rw [hR], show (R .ready none).body = body by rw [hR]] at hy
      refine ⟨fn, _, assign, body, hy, roundIn_of_wpIn hfn (hassign _ pre x V _ hi hx fun a' V1 k1 i1 ax1 => ?_)⟩
      have b1 := hb.keep rfl (k1)
      have b2 := b1.put (.loop { R .ready none with state := .busy })
      refine ⟨_, run_beginRound b1.l (by rw [hR]), wpIn_mono (hbody _ pre x a' _ (iput _ i1 b1 rfl) ((hAx x a').putObj (s := ()) _ ax1 (by omega) b1.l rfl) hx) ?_⟩
      have fin : ∀ (j : Option Code) (V3 : World), Bk w.heap.size (.loop { R .ready none with state := .busy }) V3 → (Instr.endRound (w.heap.size + 1) j).run P V3 = .ok (.bool j.isNone) (V3.putObj (w.heap.size + 1) (.loop (R (if j.isNone then .ready else .done) j))) := fun j V3 h3 => by
        have z := run_endRound (P := P) j h3.l
        rw [hR] at z ⊢
        exact z
      rintro e a3 V3 hp
      have jump : ∀ (c : Code), KeepsFrom w.heap.size (V1.putObj (w.heap.size + 1) (.loop { R .ready none with state := .busy })) V3 ∧ Ix c (pre ++ [x]) V3 → ∃ b V4, (Instr.endRound (w.heap.size + 1) (some c)).run P V3 = .ok (.bool b) V4 ∧ ((b = true ∧ I (pre ++ [x]) V4 ∧ Bk w.heap.size (.loop (R .ready none)) V4) ∨ (b = false ∧ ∃ c, Ix c (pre ++ [x]) V4 ∧ Bk w.heap.size (.loop (R .done (some c))) V4)) := fun c h => by
        have b3 := b2.keep rfl (h.1)
        exact ⟨_, _, fin (some c) V3 b3, .inr ⟨rfl, c, xput _ h.2 b3 rfl, b3.put _⟩⟩
      cases e with
      | normal =>
        have b3 := b2.keep rfl (hp.1)
        exact ⟨_, _, fin none V3 b3, .inl ⟨rfl, iput _ hp.2.2 b3 rfl, b3.put _⟩⟩
      | ret => obtain ⟨b, V4, h4, h5⟩ := jump _ hp; exact ⟨_, V4, h4, by simpa using h5⟩
      | exit id => obtain ⟨b, V4, h4, h5⟩ := jump _ hp; exact ⟨_, V4, h4, by simpa using h5⟩
      | goto t => obtain ⟨b, V4, h4, h5⟩ := jump _ hp; exact ⟨_, V4, h4, by simpa using h5⟩
      | panic ch => exact hp.elim
      | outgrown => exact hp.elim
    · rintro e V ⟨⟨v, rfl⟩, (⟨xs, hS, hi, hb⟩ | ⟨pre, c, hi, hb⟩)⟩
      · refine ⟨none, _, ?_, hdone w.heap.size xs _ (by omega) hS (iput (.loop (R .exhausted none)) hi hb rfl) (hb.put _).d⟩
        have z := run_endLoop (P := P) hb.l (by rw [hR]; simp)
        rw [hR] at z ⊢
        exact z
      · refine ⟨some c, _, ?_, hstop w.heap.size c pre _ (by omega) (xput (.loop (R .exhausted (some c))) hi hb rfl) (hb.put _).d⟩
        have z := run_endLoop (P := P) hb.l (by rw [hR]; simp)
        rw [hR] at z ⊢
        exact z
/-- A box of cells abides the turn of what is no cells. -/
theorem boxF_own {β : Type} (b : Nat) (f : β → List Value) (B : Nat) : OwnFrom B (fun s W => BoxF W b (f s) ∧ 0 < (f s).length) := fun s X Y row hs hg hr => ⟨hs.1.grown hg (fun e => by
  obtain ⟨_, o, ho, hc⟩ := hr b e
  have hx := hs.1.1.2 0 hs.2
  simp only [World.cell?, ho] at hx
  rw [List.getElem?_eq_getElem hs.2] at hx
  cases o <;> simp_all [Obj.isCells]), hs.2⟩
/-- A least number of its kind. -/
theorem least_of {p : Nat → Prop} : ∀ (m : Nat), p m → ∃ k, p k ∧ ∀ j, p j → k ≤ j := by
  intro m
  induction m using Nat.strongRecOn with
  | ind m ih =>
    intro h
    by_cases hx : ∃ j, j < m ∧ p j
    · obtain ⟨j, hj, hp⟩ := hx; exact ih j hj hp
    · exact ⟨m, h, fun j hj => Nat.le_of_not_lt fun hl => hx ⟨j, hl, hj⟩⟩
open Classical in
noncomputable def leastNat (p : Nat → Prop) : Nat := if h : ∃ k, p k ∧ ∀ j, p j → k ≤ j then Classical.choose h else 0
theorem leastNat_is {p : Nat → Prop} {m : Nat} (h : p m) : p (leastNat p) ∧ leastNat p ≤ m := by
  have hx := least_of m h
  unfold leastNat
  rw [dif_pos hx]
  have z := Classical.choose_spec hx
  exact ⟨z.1, z.2 _ h⟩
end Go.Own
