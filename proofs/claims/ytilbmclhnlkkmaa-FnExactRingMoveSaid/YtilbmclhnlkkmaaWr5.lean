/- A region that draws its order, in which several operations write into blocks that were there, each into its own. Of any program. (printed by tools/mk_wr5.py) -/
import Derived.Test.YtilbmclhnlkkmaaWr3
import Derived.Test.YtilbmclhnlkkmaaMid
namespace Go
open Go.RowKit Go.Own
set_option linter.unusedVariables false
/-- What an operation of the region is: it only reads; it makes memory; it stores into what the operation d has made; it writes into its own blocks that were there; it reads what stands in those of operation j ahead of that one. -/
inductive Kd5 where
  | plain
  | make
  | write (d : Nat)
  | change
  | look (j : Nat)
deriving DecidableEq
/-- A world come out of W, in which blocks of S may have been written, not those of T. -/
structure ExtT (S T : Nat → Prop) (W : World) where
  w : World
  h : ChgS S W w
  old : ∀ b, T b → w.heap[b]? = W.heap[b]?
instance (S T : Nat → Prop) (W : World) : Nonempty (ExtT S T W) := ⟨⟨W, ChgS.refl S W, fun _ _ => rfl⟩⟩
theorem ExtT.cell {S T : Nat → Prop} {W : World} {b o : Nat} {v : Value} (hb : b < W.heap.size) (hT : S b → T b) (h : W.cell? ⟨b, o, .none⟩ = some v) : ∀ e : ExtT S T W, e.w.cell? ⟨b, o, .none⟩ = some v := fun e => by
  by_cases hs : S b
  · exact (cell_same (e.old b (hT hs))).trans h
  · exact (cell_chg e.h hb hs).trans h
section
variable {P : Program} {ops : Array Oper} {md : Region.Mode} {C : World → Prop} {Sh : Nat → Value → Nat → Nat → Prop} {R : Nat → Value → Nat → Nat → World → Prop} {dep : Nat → List Nat} {kd : Nat → Kd5} {S : Nat → Nat → Prop} {W0 : World} {N : Nat}
/-- What is owed at an operation. -/
def Obl5 (P : Program) (ops : Array Oper) (C : World → Prop) (Sh : Nat → Value → Nat → Nat → Prop) (R : Nat → Value → Nat → Nat → World → Prop) (S : Nat → Nat → Prop) (W0 : World) (dep : Nat → List Nat) (kd : Nat → Kd5) (i : Nat) (o : Oper) (a : Act) (m : Made) : Prop :=
  if Region.wanted o (yielded ops a.tmps) = true then
    match kd i with
    | .plain => ∃ v, ∀ w, C w → o.plainAt P a w v
    | .make => o.makes2 P C Sh R dep i a m
    | .change => o.changes P C Sh R (S i) W0 dep i a m
    | .look j => ∃ v, ∀ w, C w → (∀ b, S j b → w.heap[b]? = W0.heap[b]?) → o.plainAt P a w v
    | .write d => (∃ v lo hi, m d = some (v, lo, hi)) ∧ o.writes P C R dep i d a m
  else True
/-- What may come of it. -/
def Outs5 (P : Program) (ops : Array Oper) (C : World → Prop) (Sh : Nat → Value → Nat → Nat → Prop) (S : Nat → Nat → Prop) (W0 : World) (kd : Nat → Kd5) (i : Nat) (o : Oper) (a : Act) (m : Made) (v : Value) (u : Option (Value × Nat × Nat)) : Prop :=
  if Region.wanted o (yielded ops a.tmps) = true then
    match kd i with
    | .plain => u = none ∧ ∀ w, C w → o.plainAt P a w v
    | .make => ∃ lo hi, u = some (v, lo, hi) ∧ Sh i v lo hi
    | .change => ∃ lo hi, u = some (o.told a v, lo, hi) ∧ Sh i v lo hi
    | .look j => u = none ∧ ∀ w, C w → (∀ b, S j b → w.heap[b]? = W0.heap[b]?) → o.plainAt P a w v
    | .write d => v = undef ∧ ∃ x lo hi, m d = some (x, lo, hi) ∧ u = some (o.stored a, lo, hi)
  else v = undef ∧ u = none
def aOp5 (P : Program) (ops : Array Oper) (C : World → Prop) (Sh : Nat → Value → Nat → Nat → Prop) (R : Nat → Value → Nat → Nat → World → Prop) (S : Nat → Nat → Prop) (W0 : World) (dep : Nat → List Nat) (kd : Nat → Kd5) (i : Nat) (K : Act → Made → Prop) (a : Act) (m : Made) : Prop :=
  match ops[i]? with
  | none => K a m
  | some o => Obl5 P ops C Sh R S W0 dep kd i o a m ∧ ∀ v u, Outs5 P ops C Sh S W0 kd i o a m v u → K (a.put o.dst v) (m.app i u)
theorem aOp_mono5 {i : Nat} {a : Act} {m : Made} {K K' : Act → Made → Prop} (h : ∀ a m, K a m → K' a m) (hh : aOp5 P ops C Sh R S W0 dep kd i K a m) : aOp5 P ops C Sh R S W0 dep kd i K' a m := by
  unfold aOp5 at *
  split
  · exact h _ _ (by simpa [*] using hh)
  · rename_i o ho
    simp only [ho] at hh
    exact ⟨hh.1, fun v u hv => h _ _ (hh.2 v u hv)⟩
theorem outs_ex5 {i : Nat} {o : Oper} {a : Act} {m : Made} (hSh : ∀ i, ∃ v lo hi, Sh i v lo hi) (h : Obl5 P ops C Sh R S W0 dep kd i o a m) : ∃ v u, Outs5 P ops C Sh S W0 kd i o a m v u := by
  unfold Obl5 at h; unfold Outs5
  by_cases hw : Region.wanted o (yielded ops a.tmps) = true
  · simp only [hw, if_true] at h ⊢
    cases e : kd i with
    | plain => simp only [e] at h ⊢; obtain ⟨v, hv⟩ := h; exact ⟨v, none, rfl, hv⟩
    | make => simp only [] at h ⊢; obtain ⟨v, lo, hi, hs⟩ := hSh i; exact ⟨v, _, lo, hi, rfl, hs⟩
    | change => simp only [] at h ⊢; obtain ⟨v, lo, hi, hs⟩ := hSh i; exact ⟨v, _, lo, hi, rfl, hs⟩
    | look j => simp only [e] at h ⊢; obtain ⟨v, hv⟩ := h; exact ⟨v, none, rfl, hv⟩
    | write d => simp only [e] at h ⊢; obtain ⟨⟨v, lo, hi, hm⟩, _⟩ := h; exact ⟨undef, _, rfl, v, lo, hi, hm, rfl⟩
  · simp only [hw] at h ⊢; exact ⟨undef, none, rfl, rfl⟩
/-- What an operation owes and what may come of it: the same behind another one on which it does not lean. -/
theorem obl_app5 {i j : Nat} {o : Oper} {a : Act} {m : Made} {d : Option Tmp} {v : Value} {u : Option (Value × Nat × Nat)} (hs : ∀ cs b, o.op ≠ .select cs b) (hd : ∀ t, d = some t → t ∉ o.looksAt ops) (hj : j ∉ dep i) (hk : ∀ d, kd i = .write d → d ∈ dep i) :
    Obl5 P ops C Sh R S W0 dep kd i o (a.put d v) (m.app j u) ↔ Obl5 P ops C Sh R S W0 dep kd i o a m := by
  unfold Obl5
  rw [wanted_put o a d v hd]
  split
  · cases e : kd i with
    | plain => simp only [Oper.plainAt, execOp_put o hs a d v hd]
    | make => simp only [Oper.makes2, execOp_put o hs a d v hd, deps_app hj]
    | change => simp only [Oper.changes, execOp_put o hs a d v hd, deps_app hj, told_put hd]
    | look j => simp only [Oper.plainAt, execOp_put o hs a d v hd]
    | write t =>
      have ht : t ≠ j := fun e9 => hj (by have h8 := hk t e; rw [e9] at h8; exact h8)
      simp only [Oper.writes, execOp_put o hs a d v hd, deps_app hj, app_ne m ht, stored_put hd]
  · exact Iff.rfl
theorem outs_app5 {i j : Nat} {o : Oper} {a : Act} {m : Made} {d : Option Tmp} {v v' : Value} {u u' : Option (Value × Nat × Nat)} (hs : ∀ cs b, o.op ≠ .select cs b) (hd : ∀ t, d = some t → t ∉ o.looksAt ops) (hj : j ∉ dep i) (hk : ∀ d, kd i = .write d → d ∈ dep i) :
    Outs5 P ops C Sh S W0 kd i o (a.put d v) (m.app j u) v' u' ↔ Outs5 P ops C Sh S W0 kd i o a m v' u' := by
  unfold Outs5
  rw [wanted_put o a d v hd]
  split
  · cases e : kd i with
    | plain => simp only [Oper.plainAt, execOp_put o hs a d v hd]
    | make => exact Iff.rfl
    | change => simp only [told_put hd]
    | look j => simp only [Oper.plainAt, execOp_put o hs a d v hd]
    | write t =>
      have ht : t ≠ j := fun e9 => hj (by have h8 := hk t e; rw [e9] at h8; exact h8)
      simp only [app_ne m ht, stored_put hd]
  · exact Iff.rfl
theorem aOp_swap5 {i j : Nat} {oi oj : Oper} {a : Act} {m : Made} {K : Act → Made → Prop} (hi : ops[i]? = some oi) (hj : ops[j]? = some oj) (hij : i ≠ j) (hap : oi.apart ops oj = true)
    (hsi : ∀ cs b, oi.op ≠ .select cs b) (hsj : ∀ cs b, oj.op ≠ .select cs b) (hdi : j ∉ dep i) (hdj : i ∉ dep j) (hk : ∀ i d, kd i = .write d → d ∈ dep i) (hSh : ∀ i, ∃ v lo hi, Sh i v lo hi)
    (h : aOp5 P ops C Sh R S W0 dep kd i (fun a' m' => aOp5 P ops C Sh R S W0 dep kd j K a' m') a m) : aOp5 P ops C Sh R S W0 dep kd j (fun a' m' => aOp5 P ops C Sh R S W0 dep kd i K a' m') a m := by
  obtain ⟨h1, h2, h3⟩ := Oper.apart_spec hap
  unfold aOp5 at h ⊢
  simp only [hi, hj] at h ⊢
  obtain ⟨o1, k1⟩ := h
  obtain ⟨v0, u0, ho0⟩ := outs_ex5 hSh o1
  refine ⟨(obl_app5 hsj h1 hdj (hk j)).1 (k1 v0 u0 ho0).1, fun v u hv => ⟨(obl_app5 hsi h3 hdi (hk i)).2 o1, fun v' u' hv' => ?_⟩⟩
  have hv1 := (outs_app5 hsi h3 hdi (hk i)).1 hv'
  have h9 := (k1 v' u' hv1).2 v u ((outs_app5 hsj h1 hdj (hk j)).2 hv)
  rw [← Act.put_comm a v' v h2, ← app_comm m hij]
  exact h9
/-- Whatever order is picked from here on. -/
def wpAllK5 (P : Program) (md : Region.Mode) (ops : Array Oper) (C : World → Prop) (Sh : Nat → Value → Nat → Nat → Prop) (R : Nat → Value → Nat → Nat → World → Prop) (S : Nat → Nat → Prop) (W0 : World) (dep : Nat → List Nat) (kd : Nat → Kd5) (L : Act → Made → Prop) : Nat → Array Bool → Act → Made → Prop
  | 0, listed, a, m => Region.ready md ops listed = [] ∧ L a m
  | f + 1, listed, a, m => Region.ready md ops listed ≠ [] ∧ ∀ i ∈ Region.ready md ops listed, aOp5 P ops C Sh R S W0 dep kd i (wpAllK5 P md ops C Sh R S W0 dep kd L f (listed.setIfInBounds i true)) a m
theorem wpAllK_first5 {i : Nat} {oi : Oper} {L : Act → Made → Prop} (hi : ops[i]? = some oi) (hsel : ∀ (j : Nat) (o : Oper) cs b, ops[j]? = some o → o.op ≠ .select cs b) (hSh : ∀ i, ∃ v lo hi, Sh i v lo hi) (hk : ∀ i d, kd i = .write d → d ∈ dep i)
    (hdep : ∀ j oj, ops[j]? = some oj → ∀ d ∈ dep j, ∃ e ∈ oj.after, Region.binds md e = true ∧ e.on = d) :
    ∀ (f : Nat) (listed : Array Bool) (a : Act) (m : Made),
      (∀ j oj, ops[j]? = some oj → j ≠ i → listed.getD j true = false → (∀ e ∈ oj.after, Region.binds md e = true → e.on ≠ i) → oi.apart ops oj = true) →
      i ∈ Region.ready md ops listed →
      aOp5 P ops C Sh R S W0 dep kd i (wpAllK5 P md ops C Sh R S W0 dep kd L f (listed.setIfInBounds i true)) a m → wpAllK5 P md ops C Sh R S W0 dep kd L (f + 1) listed a m := by
  intro f
  induction f with
  | zero =>
    intro listed a m hfree hr H
    refine ⟨fun h => (by rw [h] at hr; cases hr), fun j hj => ?_⟩
    by_cases hji : j = i
    · subst hji; exact H
    · exfalso
      unfold aOp5 at H
      simp only [hi] at H
      obtain ⟨v, u, ho⟩ := outs_ex5 hSh H.1
      have h9 := (H.2 v u ho).1
      have := ready_mono hj hji
      rw [h9] at this
      cases this
  | succ f ih =>
    intro listed a m hfree hr H
    have hun := (mem_ready.1 hr).1
    obtain ⟨_, oi', hoi', halli⟩ := mem_ready.1 hr
    have : oi' = oi := Option.some.inj (hoi'.symm.trans hi)
    subst this
    refine ⟨fun h => (by rw [h] at hr; cases hr), fun j hj => ?_⟩
    by_cases hji : j = i
    · subst hji; exact H
    · obtain ⟨hjun, oj, hoj, hall⟩ := mem_ready.1 hj
      have hnot : ∀ e ∈ oj.after, Region.binds md e = true → e.on ≠ i := fun e he hb heq => by
        have h1 := hall e he hb
        rw [heq, getD_both hun] at h1
        cases h1
      have hnoti : ∀ e ∈ oi'.after, Region.binds md e = true → e.on ≠ j := fun e he hb heq => by
        have h1 := halli e he hb
        rw [heq, getD_both hjun] at h1
        cases h1
      have hdi : j ∉ dep i := fun e => by
        obtain ⟨x, hx, hb, ho⟩ := hdep i oi' hi j e
        exact hnoti x hx hb ho
      have hdj : i ∉ dep j := fun e => by
        obtain ⟨x, hx, hb, ho⟩ := hdep j oj hoj i e
        exact hnot x hx hb ho
      have hfree' : ∀ k ok, ops[k]? = some ok → k ≠ i → (listed.setIfInBounds j true).getD k true = false →
          (∀ e ∈ ok.after, Region.binds md e = true → e.on ≠ i) → oi'.apart ops ok = true := fun k ok hk hki hu hno => by
        refine hfree k ok hk hki ?_ hno
        by_cases hjk : j = k
        · subst hjk; exact hjun
        · rw [getD_set_ne true hjk] at hu; exact hu
      have H2 : aOp5 P ops C Sh R S W0 dep kd i (fun a' m' => aOp5 P ops C Sh R S W0 dep kd j (wpAllK5 P md ops C Sh R S W0 dep kd L f ((listed.setIfInBounds i true).setIfInBounds j true)) a' m') a m :=
        aOp_mono5 (fun a' m' h => h.2 j (ready_mono hj hji)) H
      have H3 := aOp_swap5 hi hoj (Ne.symm hji) (hfree j oj hoj hji hjun hnot) (fun cs b => hsel i oi' cs b hi) (fun cs b => hsel j oj cs b hoj) hdi hdj hk hSh H2
      refine aOp_mono5 (fun a' m' h => ih (listed.setIfInBounds j true) a' m' hfree' (ready_mono hr (Ne.symm hji)) ?_) H3
      rw [Array.setIfInBounds_comm _ _ hji]
      exact h
/-- The walk in the order of the text. -/
def wpAll5 (P : Program) (ops : Array Oper) (C : World → Prop) (Sh : Nat → Value → Nat → Nat → Prop) (R : Nat → Value → Nat → Nat → World → Prop) (S : Nat → Nat → Prop) (W0 : World) (dep : Nat → List Nat) (kd : Nat → Kd5) (Q : Act → Made → Prop) : List Oper → Nat → Act → Made → Prop
  | [], _, a, m => Q a m
  | o :: rest, i, a, m => Obl5 P ops C Sh R S W0 dep kd i o a m ∧ ∀ v u, Outs5 P ops C Sh S W0 kd i o a m v u → wpAll5 P ops C Sh R S W0 dep kd Q rest (i + 1) (a.put o.dst v) (m.app i u)
theorem wpAllK_lex5 {Lq : Act → Made → Prop} (hsel : Region.noSelect ops = true) (hSh : ∀ i, ∃ v lo hi, Sh i v lo hi) (hk : ∀ i d, kd i = .write d → d ∈ dep i)
    (hdep : ∀ j oj, ops[j]? = some oj → ∀ d ∈ dep j, ∃ e ∈ oj.after, Region.binds md e = true ∧ e.on = d) :
    ∀ (l : List Oper) (k : Nat) (listed : Array Bool) (a : Act) (m : Made), (∀ j, l[j]? = ops[k + j]?) → Region.lexFrom md ops l.length k listed = true → wpAll5 P ops C Sh R S W0 dep kd Lq l k a m → wpAllK5 P md ops C Sh R S W0 dep kd Lq l.length listed a m
  | [], k, listed, a, m, _, hB, h => ⟨by simpa [Region.lexFrom] using hB, h⟩
  | o :: l, k, listed, a, m, hl, hB, h => by
    have h0 : ops[k]? = some o := by simpa using (hl 0).symm
    simp only [List.length_cons, Region.lexFrom, Bool.and_eq_true] at hB
    obtain ⟨⟨hr, hf⟩, hB'⟩ := hB
    have hst : aOp5 P ops C Sh R S W0 dep kd k (wpAll5 P ops C Sh R S W0 dep kd Lq l (k + 1)) a m := by unfold aOp5; simp only [h0]; exact h
    refine wpAllK_first5 h0 (Region.noSelect_spec hsel) hSh hk hdep l.length listed a m (Region.free_spec h0 hf) (by simpa using hr) (aOp_mono5 (fun a' m' h' => ?_) hst)
    exact wpAllK_lex5 hsel hSh hk hdep l (k + 1) _ a' m' (fun j => by have := hl (j + 1); simpa [Nat.add_assoc, Nat.add_comm 1 j] using this) hB' h'
/-- What is known of what has been made and written, in a world. -/
structure MadeAll5 (R : Nat → Value → Nat → Nat → World → Prop) (S : Nat → Nat → Prop) (W0 : World) (N : Nat) (kd : Nat → Kd5) (m : Made) (w : World) : Prop where
  one : ∀ i v lo hi, m i = some (v, lo, hi) → R i v lo hi w ∧ hi ≤ w.heap.size
  two : ∀ i j v lo hi u lo' hi', (kd i = .make ∨ kd i = .change) → (kd j = .make ∨ kd j = .change) → i ≠ j → m i = some (v, lo, hi) → m j = some (u, lo', hi') → hi ≤ lo' ∨ hi' ≤ lo
  tgt : ∀ i d v lo hi, kd i = .write d → m i = some (v, lo, hi) → ∃ u, m d = some (u, lo, hi)
  non : ∀ i, (kd i = .plain ∨ ∃ j, kd i = .look j) → m i = none
  low : ∀ i v lo hi, m i = some (v, lo, hi) → N ≤ lo
  old : ∀ i, kd i = .change → m i = none → ∀ b, S i b → w.heap[b]? = W0.heap[b]?
theorem wpAny_of_allK5 {L : Act → Made → Prop} {Q' : Exit → Act → World → Prop} (hkm : ∀ i d, kd i = .write d → kd d = .make ∧ d ∈ dep i) (hku : ∀ i j d, kd i = .write d → kd j = .write d → i = j) (hSd : ∀ i j b, kd i = .change → kd j = .change → i ≠ j → S i b → ¬ S j b) (hkl : ∀ i j, kd i = .look j → kd j = .change ∧ behindB md ops ops.size j i = true)
    (hSN : ∀ i b, S i b → b < N) (hCN : ∀ w, C w → N ≤ w.heap.size)
    (hR : ∀ i v lo hi w w', R i v lo hi w → hi ≤ w.heap.size → ChgS (fun b => ¬ (lo ≤ b ∧ b < hi) ∧ ¬ (kd i = .change ∧ S i b)) w w' → R i v lo hi w')
    (hL : ∀ a m w, L a m → C w → MadeAll5 R S W0 N kd m w → Q' .normal a w) :
    ∀ (f : Nat) (listed : Array Bool) (a : Act) (m : Made) (w : World), Closed md ops listed → listed.size = ops.size → C w → MadeAll5 R S W0 N kd m w → (∀ i, m i ≠ none → listed.getD i false = true) → wpAllK5 P md ops C Sh R S W0 dep kd L f listed a m → wpAny P md ops Q' f listed a w
  | 0, listed, a, m, w, _, _, hw, hm, _, h => ⟨h.1, hL _ _ _ h.2 hw hm⟩
  | f + 1, listed, a, m, w, hcl, hls, hw, hm, hlm, h => by
    refine ⟨fun h0 => absurd h0 h.1, fun i hi => ?_⟩
    have h1 := h.2 i hi
    have hun := (mem_ready.1 hi).1
    have hnone : m i = none := by
      cases e : m i with
      | none => rfl
      | some x => have := hlm i (by rw [e]; simp); rw [getD_both hun] at this; cases this
    have hio : i < ops.size := by obtain ⟨_, o, ho, _⟩ := mem_ready.1 hi; exact (Array.getElem?_eq_some_iff.1 ho).1
    have hlm' : ∀ k, m k ≠ none → (listed.setIfInBounds i true).getD k false = true := fun k hk => getD_set_true (hlm k hk)
    have hlu : ∀ x k, (m.upd i x) k ≠ none → (listed.setIfInBounds i true).getD k false = true := fun x k hk => by
      by_cases e : k = i
      · subst e
        have : k < listed.size := by rw [hls]; exact hio
        simp [this]
      · rw [Made.upd_ne _ e] at hk; exact hlm' k hk
    unfold aOp5 at h1
    unfold wpOp
    split
    · rename_i ho; simp only [ho] at h1
      exact wpAny_of_allK5 hkm hku hSd hkl hSN hCN hR hL f _ _ _ _ (hcl.step hi) (by simpa using hls) hw hm hlm' h1
    · rename_i o ho
      simp only [ho] at h1
      obtain ⟨hob, hK⟩ := h1
      unfold Obl5 at hob
      unfold Outs5 at hK
      split
      · rename_i hwt
        simp only [hwt, if_true] at hob hK
        refine .inl ?_
        have hdp : Deps R dep i m w := fun d _ v lo hi hd => hm.one d v lo hi hd
        -- a step that makes (or changes what is in S)
        have key : ∀ (v : Value) (w' : World), (kd i = .make ∨ kd i = .change) → C w' → ChgS (fun b => kd i = .change ∧ S i b) w w' → R i v w.heap.size w'.heap.size w' →
            MadeAll5 R S W0 N kd (m.upd i (v, w.heap.size, w'.heap.size)) w' := fun v w' ki c1 c2 c3 => by
          have kw : ∀ k d, kd k = .write d → k ≠ i := fun k d ek e9 => by subst e9; rcases ki with h | h <;> (rw [ek] at h; cases h)
          have kp : ∀ k, (kd k = .plain ∨ ∃ j, kd k = .look j) → k ≠ i := fun k ek e9 => by subst e9; rcases ki with h | h <;> (rcases ek with ek | ⟨j, ek⟩ <;> (rw [ek] at h; cases h))
          refine ⟨fun k u lo hi hk => ?_, fun k l u lo hi u' lo' hi' ek el hkl hk hl => ?_, fun k d u lo hi ek hk => ?_, fun k ek => ?_, fun k u lo hi hk => ?_, fun k ek hn b hb => ?_⟩
          · by_cases e : k = i
            · subst e; rw [Made.upd_same] at hk
              simp only [Option.some.injEq, Prod.mk.injEq] at hk
              obtain ⟨rfl, rfl, rfl⟩ := hk
              exact ⟨c3, Nat.le_refl _⟩
            · rw [Made.upd_ne _ e] at hk
              obtain ⟨r1, r2⟩ := hm.one k u lo hi hk
              have hlo := hm.low k u lo hi hk
              exact ⟨hR _ _ _ _ _ _ r1 r2 (c2.mono fun b hb => ⟨fun h9 => by have := hSN i b hb.2; omega, fun h9 => hSd i k b hb.1 h9.1 (Ne.symm e) hb.2 h9.2⟩), Nat.le_trans r2 c2.size⟩
          · by_cases e : k = i
            · subst e; rw [Made.upd_same] at hk
              rw [Made.upd_ne _ (Ne.symm hkl)] at hl
              simp only [Option.some.injEq, Prod.mk.injEq] at hk
              obtain ⟨rfl, rfl, rfl⟩ := hk
              exact .inr (hm.one l _ _ _ hl).2
            · rw [Made.upd_ne _ e] at hk
              by_cases e2 : l = i
              · subst e2; rw [Made.upd_same] at hl
                simp only [Option.some.injEq, Prod.mk.injEq] at hl
                obtain ⟨rfl, rfl, rfl⟩ := hl
                exact .inl (hm.one k _ _ _ hk).2
              · rw [Made.upd_ne _ e2] at hl
                exact hm.two k l _ _ _ _ _ _ ek el hkl hk hl
          · have e1 := kw k d ek
            rw [Made.upd_ne _ e1] at hk
            obtain ⟨u', hu'⟩ := hm.tgt k d u lo hi ek hk
            have e2 : d ≠ i := fun e9 => by subst e9; rw [hnone] at hu'; cases hu'
            exact ⟨u', (Made.upd_ne m e2 _).trans hu'⟩
          · exact (Made.upd_ne m (kp k ek) _).trans (hm.non k ek)
          · by_cases e : k = i
            · subst e; rw [Made.upd_same] at hk
              simp only [Option.some.injEq, Prod.mk.injEq] at hk
              obtain ⟨rfl, rfl, rfl⟩ := hk
              exact hCN w hw
            · rw [Made.upd_ne _ e] at hk
              exact hm.low k u lo hi hk
          · have e1 : k ≠ i := fun e9 => by subst e9; rw [Made.upd_same] at hn; cases hn
            rw [c2.block b (Nat.lt_of_lt_of_le (hSN k b hb) (hCN w hw)) (fun h9 => hSd i k b h9.1 ek (Ne.symm e1) h9.2 hb)]
            exact hm.old k ek ((Made.upd_ne m e1 _).symm.trans hn) b hb
        cases e : kd i with
        | plain =>
          simp only [e] at hob hK
          obtain ⟨v, hv⟩ := hob
          exact wp_of_plain (hv w hw) (wpAny_of_allK5 hkm hku hSd hkl hSN hCN hR hL f _ _ _ _ (hcl.step hi) (by simpa using hls) hw hm hlm' (hK v none ⟨rfl, hv⟩))
        | make =>
          simp only [e] at hob hK
          refine wp_of_made (hob w hw hdp) fun v w' ⟨c1, c2, c4, c3⟩ => ?_
          exact wpAny_of_allK5 hkm hku hSd hkl hSN hCN hR hL f _ _ _ w' (hcl.step hi) (by simpa using hls) c1 (key v w' (.inl e) c1 (ChgS.of_below c2 _) c3) (hlu _) (hK v _ ⟨w.heap.size, w'.heap.size, rfl, c4⟩)
        | change =>
          simp only [e] at hob hK
          have hold := hm.old i e hnone
          refine wp_of_made (hob w hw hdp hold) fun v w' ⟨c1, c2, c4, c3⟩ => ?_
          exact wpAny_of_allK5 hkm hku hSd hkl hSN hCN hR hL f _ _ _ w' (hcl.step hi) (by simpa using hls) c1 (key _ w' (.inr e) c1 (c2.mono fun b hb => ⟨e, hb⟩) c3) (hlu _) (hK v _ ⟨w.heap.size, w'.heap.size, rfl, c4⟩)
        | look j =>
          simp only [e] at hob hK
          obtain ⟨v, hv⟩ := hob
          have hold := hm.old j (hkl i j e).1 (by
            cases e9 : m j with
            | none => rfl
            | some x =>
              have h8 := hcl.behind _ _ _ (hkl i j e).2 (hlm j (by rw [e9]; simp))
              rw [getD_both hun] at h8; cases h8)
          exact wp_of_plain (hv w hw hold) (wpAny_of_allK5 hkm hku hSd hkl hSN hCN hR hL f _ _ _ _ (hcl.step hi) (by simpa using hls) hw hm hlm' (hK v none ⟨rfl, hv⟩))
        | write d =>
          simp only [e] at hob hK
          obtain ⟨⟨x, lo0, hi0, hmd⟩, hwr⟩ := hob
          obtain ⟨hdm, -⟩ := hkm i d e
          have hdi : d ≠ i := fun e9 => by subst e9; rw [hdm] at e; cases e
          have hlo0 := hm.low d x lo0 hi0 hmd
          refine wp_of_wrote (hwr w hw hdp x lo0 hi0 hmd) fun w' ⟨c1, c2, c3, c4, c5⟩ => ?_
          refine wpAny_of_allK5 hkm hku hSd hkl hSN hCN hR hL f _ _ _ w' (hcl.step hi) (by simpa using hls) c1 ⟨fun k u lo hi hk => ?_, fun k l u lo hi u' lo' hi' ek el hkl hk hl => ?_, fun k d' u lo hi ek hk => ?_, fun k ek => ?_, fun k u lo hi hk => ?_, fun k ek hn b hb => ?_⟩ (hlu _) (hK undef _ ⟨rfl, x, lo0, hi0, hmd, rfl⟩)
          · by_cases e1 : k = i
            · subst e1
              have hk2 := (Made.upd_same m k (o.stored a, lo0, hi0)).symm.trans hk
              simp only [Option.some.injEq, Prod.mk.injEq] at hk2
              obtain ⟨rfl, rfl, rfl⟩ := hk2
              exact ⟨c5, by rw [c3]; exact (hm.one d _ _ _ hmd).2⟩
            · replace hk := (Made.upd_ne m e1 _).symm.trans hk
              obtain ⟨r1, r2⟩ := hm.one k u lo hi hk
              by_cases e2 : k = d
              · subst e2
                rw [hmd] at hk
                simp only [Option.some.injEq, Prod.mk.injEq] at hk
                obtain ⟨rfl, rfl, rfl⟩ := hk
                exact ⟨c4, by rw [c3]; exact r2⟩
              · have hdj : hi ≤ lo0 ∨ hi0 ≤ lo := by
                  cases ek : kd k with
                  | plain => rw [hm.non k (.inl ek)] at hk; cases hk
                  | look j => rw [hm.non k (.inr ⟨j, ek⟩)] at hk; cases hk
                  | make => exact hm.two k d _ _ _ _ _ _ (.inl ek) (.inl hdm) e2 hk hmd
                  | change => exact hm.two k d _ _ _ _ _ _ (.inr ek) (.inl hdm) e2 hk hmd
                  | write d2 =>
                    obtain ⟨u2, hu2⟩ := hm.tgt k d2 u lo hi ek hk
                    have hne : d2 ≠ d := fun e9 => by subst e9; exact e1 (hku k i d2 ek e)
                    exact hm.two d2 d _ _ _ _ _ _ (.inl (hkm k d2 ek).1) (.inl hdm) hne hu2 hmd
                exact ⟨hR _ _ _ _ _ _ r1 r2 (c2.mono fun b hb => ⟨fun h9 => by omega, fun h9 => by have := hSN k b h9.2; omega⟩), by rw [c3]; exact r2⟩
          · have e1 : k ≠ i := fun e9 => by subst e9; rcases ek with ek | ek <;> (rw [e] at ek; cases ek)
            have e2 : l ≠ i := fun e9 => by subst e9; rcases el with el | el <;> (rw [e] at el; cases el)
            exact hm.two k l _ _ _ _ _ _ ek el hkl ((Made.upd_ne m e1 _).symm.trans hk) ((Made.upd_ne m e2 _).symm.trans hl)
          · by_cases e1 : k = i
            · subst e1
              have hk2 := (Made.upd_same m k (o.stored a, lo0, hi0)).symm.trans hk
              simp only [Option.some.injEq, Prod.mk.injEq] at hk2
              obtain ⟨rfl, rfl, rfl⟩ := hk2
              rw [e] at ek
              obtain rfl : d = d' := by injection ek
              exact ⟨x, (Made.upd_ne m hdi _).trans hmd⟩
            · obtain ⟨u', hu'⟩ := hm.tgt k d' u lo hi ek ((Made.upd_ne m e1 _).symm.trans hk)
              have e2 : d' ≠ i := fun e9 => by subst e9; rw [hnone] at hu'; cases hu'
              exact ⟨u', (Made.upd_ne m e2 _).trans hu'⟩
          · have e1 : k ≠ i := fun e9 => by subst e9; rcases ek with ek | ⟨j, ek⟩ <;> (rw [e] at ek; cases ek)
            exact (Made.upd_ne m e1 _).trans (hm.non k ek)
          · by_cases e1 : k = i
            · subst e1
              have hk2 := (Made.upd_same m k (o.stored a, lo0, hi0)).symm.trans hk
              simp only [Option.some.injEq, Prod.mk.injEq] at hk2
              obtain ⟨rfl, rfl, rfl⟩ := hk2
              exact hlo0
            · exact hm.low k u lo hi ((Made.upd_ne m e1 _).symm.trans hk)
          · have e1 : k ≠ i := fun e9 => by subst e9; rw [e] at ek; cases ek
            rw [c2.block b (Nat.lt_of_lt_of_le (hSN k b hb) (hCN w hw)) (fun h9 => by have := hSN k b hb; omega)]
            exact hm.old k ek ((Made.upd_ne m e1 _).symm.trans hn) b hb
      · rename_i hwt
        simp only [hwt] at hK
        exact wpAny_of_allK5 hkm hku hSd hkl hSN hCN hR hL f _ _ _ _ (hcl.step hi) (by simpa using hls) hw hm hlm' (hK undef none ⟨rfl, rfl⟩)
/-- The targets of the stores: makers on which the stores lean, each its own. -/
def kdB5 (ops : Array Oper) (dep : Nat → List Nat) (kd : Nat → Kd5) : Bool := (List.range ops.size).all fun i => match kd i with
  | .write d => decide (kd d = .make) && (dep i).contains d && (List.range ops.size).all fun j => decide (kd j = .write d → i = j)
  | .look j => decide (kd j = .change) && behindB .any ops ops.size j i
  | _ => true
/-- **A region that draws its order, walked once.** -/
theorem wp_region_all5 {id : Nat} {Q : Exit → Act → World → Prop} {a : Act} {w : World} {l : List Oper} (C : World → Prop) (Sh : Nat → Value → Nat → Nat → Prop) (R : Nat → Value → Nat → Nat → World → Prop) (S : Nat → Nat → Prop) (dep : Nat → List Nat) (kd : Nat → Kd5)
    (hm : P.follows .mixedOrders = true) (hB : Region.lexB .any l.toArray = true)
    (hdep : ((List.range l.length).all fun j => (dep j).all fun d => Region.waitsFor .any l.toArray j d) = true) (hkd : kdB5 l.toArray dep kd = true) (hdn : ∀ j, l.length ≤ j → kd j = .plain)
    (hSh : ∀ i, ∃ v lo hi, Sh i v lo hi) (hSN : ∀ i b, S i b → b < w.heap.size) (hSd : ∀ i j b, kd i = .change → kd j = .change → i ≠ j → S i b → ¬ S j b) (hCN : ∀ w', C w' → w.heap.size ≤ w'.heap.size)
    (hR : ∀ i v lo hi w w', R i v lo hi w → hi ≤ w.heap.size → ChgS (fun b => ¬ (lo ≤ b ∧ b < hi) ∧ ¬ (kd i = .change ∧ S i b)) w w' → R i v lo hi w')
    (hC : C { w with drawn := w.drawn + 1 })
    (h : wpAll5 P l.toArray C Sh R S w dep kd (fun a' m' => ∀ w', C w' → MadeAll5 R S w w.heap.size kd m' w' → Q .normal a' w') l 0 a Made.none) : (Code.region id l.toArray true).wp P Q a w := by
  simp only [Region.lexB, Bool.and_eq_true] at hB
  obtain ⟨hsel, hlex⟩ := hB
  have hkp : ∀ i, kd i ≠ .plain → i < l.length := fun i e => by
    rcases Nat.lt_or_ge i l.length with h | h
    · exact h
    · exact absurd (hdn i h) e
  have hrl : ∀ i, i < l.length → i ∈ List.range l.toArray.size := fun i h => List.mem_range.2 (by simpa using h)
  have hkm : ∀ i d, kd i = .write d → kd d = .make ∧ d ∈ dep i := fun i d e => by
    have h9 := List.all_eq_true.1 hkd i (hrl _ (hkp i (by rw [e]; simp)))
    simp only [e, Bool.and_eq_true, decide_eq_true_eq, List.contains_iff_mem] at h9
    exact h9.1
  have hku : ∀ i j d, kd i = .write d → kd j = .write d → i = j := fun i j d e e2 => by
    have h9 := List.all_eq_true.1 hkd i (hrl _ (hkp i (by rw [e]; simp)))
    simp only [e, Bool.and_eq_true] at h9
    have h8 := List.all_eq_true.1 h9.2 j (hrl _ (hkp j (by rw [e2]; simp)))
    exact (of_decide_eq_true h8) e2
  have hkl : ∀ i j, kd i = .look j → kd j = .change ∧ behindB .any l.toArray l.toArray.size j i = true := fun i j e => by
    have h9 := List.all_eq_true.1 hkd i (hrl _ (hkp i (by rw [e]; simp)))
    simp only [e, Bool.and_eq_true, decide_eq_true_eq] at h9
    exact h9
  have hdep' : ∀ j oj, l.toArray[j]? = some oj → ∀ d ∈ dep j, ∃ e ∈ oj.after, Region.binds .any e = true ∧ e.on = d := fun j oj hoj d hd => by
    have hjl : j < l.length := by have := (Array.getElem?_eq_some_iff.1 hoj).1; simpa using this
    have h9 := List.all_eq_true.1 (List.all_eq_true.1 hdep j (List.mem_range.2 hjl)) d hd
    obtain ⟨oj', ho', e, he, hb, hon⟩ := Region.waitsFor_spec h9
    have : oj' = oj := Option.some.inj (ho'.symm.trans hoj)
    subst this
    exact ⟨e, he, hb, hon⟩
  refine wp_region_any hm ?_
  have H := wpAllK_lex5 (md := .any) hsel hSh (fun i d e => (hkm i d e).2) hdep' l 0 (Array.replicate l.toArray.size false) a Made.none (by simp) (by simpa using hlex) h
  have H2 := wpAny_of_allK5 (Q' := Q) (L := fun a' m' => ∀ w', C w' → MadeAll5 R S w w.heap.size kd m' w' → Q .normal a' w') hkm hku hSd hkl hSN hCN hR (fun a m w hL hw hmm => hL w hw hmm) _ _ _ _ _ (closed0 _) (by simp) hC ⟨fun i v lo hi h => (by cases h), fun i j v lo hi u lo' hi' _ _ _ h => (by cases h), fun i d v lo hi _ h => (by cases h), fun i _ => rfl, fun i v lo hi h => (by cases h), fun _ _ _ b _ => rfl⟩ (fun i h => absurd rfl h) H
  simpa using H2
end
section
variable {P : Program} {ops : Array Oper} {W : World} {C : World → Prop} {Sh : Nat → Value → Nat → Nat → Prop} {R : Nat → Value → Nat → Nat → World → Prop} {S : Nat → Nat → Prop} {dep : Nat → List Nat} {kd : Nat → Kd5} {Q : Act → Made → Prop} {o : Oper} {rest : List Oper} {i : Nat} {a : Act} {m : Made}
theorem wpR_plain5 (cl : Cls W C) (hw : Region.wanted o (yielded ops a.tmps) = true) (hk : kd i = .plain) (h : ∀ K : Act → Prop, (∀ a', wpAll5 P ops C Sh R S W dep kd Q rest (i + 1) a' m → K a') → ∃ v, (∀ w, C w → o.plainAt P a w v) ∧ K (a.put o.dst v)) : wpAll5 P ops C Sh R S W dep kd Q (o :: rest) i a m := by
  obtain ⟨v, h1, h2⟩ := h _ fun _ h => h
  refine ⟨?_, fun v' u hv' => ?_⟩
  · unfold Obl5; rw [if_pos hw, hk]; exact ⟨v, h1⟩
  · unfold Outs5 at hv'
    rw [if_pos hw, hk] at hv'
    obtain ⟨rfl, h3⟩ := hv'
    obtain rfl : v' = v := plain_unique (h3 W cl.here) (h1 W cl.here)
    exact h2
theorem wpR_skip5 (hw : Region.wanted o (yielded ops a.tmps) = false) (h : wpAll5 P ops C Sh R S W dep kd Q rest (i + 1) (a.put o.dst undef) m) : wpAll5 P ops C Sh R S W dep kd Q (o :: rest) i a m := by
  have hw' : ¬ Region.wanted o (yielded ops a.tmps) = true := by rw [hw]; exact Bool.false_ne_true
  refine ⟨?_, fun v' u hv' => ?_⟩
  · unfold Obl5; rw [if_neg hw']; trivial
  · unfold Outs5 at hv'
    rw [if_neg hw'] at hv'
    obtain ⟨rfl, rfl⟩ := hv'
    exact h
theorem wpR_make5 (cl : Cls W C) (hw : Region.wanted o (yielded ops a.tmps) = true) (hk : kd i = .make)
    (h1 : ∀ w, C w → Deps R dep i m w → Oper.madeUpon P (fun v w' => Below w.heap.size w w' ∧ Sh i v w.heap.size w'.heap.size ∧ R i v w.heap.size w'.heap.size w') ((execOp a.eval o).run P w))
    (h2 : ∀ v lo hi, Sh i v lo hi → wpAll5 P ops C Sh R S W dep kd Q rest (i + 1) (a.put o.dst v) (m.upd i (v, lo, hi))) : wpAll5 P ops C Sh R S W dep kd Q (o :: rest) i a m := by
  refine ⟨?_, fun v' u hv' => ?_⟩
  · unfold Obl5; rw [if_pos hw, hk]
    intro w hC hd
    have h9 := h1 w hC hd
    generalize (execOp a.eval o).run P w = r at h9 ⊢
    cases r with
    | ok n w' =>
      cases n <;> simp only [Oper.madeUpon] at h9 ⊢
      · exact ⟨cl.grow _ _ hC h9.1, h9⟩
      · exact ⟨cl.grow _ _ hC h9.1, h9⟩
      · exact h9.mono fun e w'' ⟨v, he, hg⟩ => ⟨v, he, cl.grow _ _ hC hg.1, hg⟩
    | halt x w' => simp only [Oper.madeUpon] at h9
  · unfold Outs5 at hv'
    rw [if_pos hw, hk] at hv'
    obtain ⟨lo, hi, rfl, hs⟩ := hv'
    exact h2 v' lo hi hs
/-- A call that answers what it makes. -/
theorem wpR_call5 (cl : Cls W C) (f : FuncId) (args : Array Value) (r : Rel) (hw : Region.wanted o (yielded ops a.tmps) = true) (hk : kd i = .make) (hsh : Sh i = r.sh) (hrr : R i = r.r) (hr : ∀ w, (execOp a.eval o).run P w = .ok (.enter f args) w)
    (h1 : ∀ w, C w → Deps R dep i m w → Calls P f args w fun e w'' => ∃ v, e = .returned v ∧ Below w.heap.size w w'' ∧ r.sh v w.heap.size w''.heap.size ∧ r.r v w.heap.size w''.heap.size w'')
    (h2 : ∀ v lo hi, r.sh v lo hi → wpAll5 P ops C Sh R S W dep kd Q rest (i + 1) (a.put o.dst v) (m.upd i (v, lo, hi))) : wpAll5 P ops C Sh R S W dep kd Q (o :: rest) i a m :=
  wpR_make5 cl hw hk (fun w hC hd => by rw [hr, hsh, hrr]; exact h1 w hC hd) (fun v lo hi hs => h2 v lo hi (by rw [hsh] at hs; exact hs))
/-- A call that writes into what was there (S). -/
theorem wpR_change5 (f : FuncId) (args : Array Value) (hcl : ∀ w w', C w → ChgS (S i) w w' → C w') (sh : Value → Nat → Nat → Prop) (r : Value → Nat → Nat → World → Prop) (hw : Region.wanted o (yielded ops a.tmps) = true) (hk : kd i = .change) (hsh : Sh i = sh) (hrr : R i = r) (hr : ∀ w, (execOp a.eval o).run P w = .ok (.enter f args) w)
    (h1 : ∀ w, C w → Deps R dep i m w → (∀ b, S i b → w.heap[b]? = W.heap[b]?) → Calls P f args w fun e w'' => ∃ v, e = .returned v ∧ ChgS (S i) w w'' ∧ sh v w.heap.size w''.heap.size ∧ r v w.heap.size w''.heap.size w'')
    (h2 : ∀ v lo hi, sh v lo hi → wpAll5 P ops C Sh R S W dep kd Q rest (i + 1) (a.put o.dst v) (m.upd i (v, lo, hi))) (ht : ∀ v, o.told a v = v := by intro v; rfl) : wpAll5 P ops C Sh R S W dep kd Q (o :: rest) i a m := by
  refine ⟨?_, fun v' u hv' => ?_⟩
  · unfold Obl5; rw [if_pos hw, hk]
    intro w hC hd hS
    rw [hr, hsh, hrr]
    exact (h1 w hC hd hS).mono fun e w'' ⟨v, he, hg⟩ => ⟨v, he, hcl _ _ hC hg.1, hg.1, hg.2.1, by rw [ht]; exact hg.2.2⟩
  · unfold Outs5 at hv'
    rw [if_pos hw, hk] at hv'
    obtain ⟨lo, hi, rfl, hs⟩ := hv'
    rw [ht]
    exact h2 v' lo hi (by rw [hsh] at hs; exact hs)
/-- A box. -/
theorem wpR_box5 (cl : Cls W C) (n : Nat) (cs : Array Value) (ty : TypeId) (hw : Region.wanted o (yielded ops a.tmps) = true) (hk : kd i = .make) (hsh : Sh i = (Rel.box W.heap.size n).sh) (hrr : R i = (Rel.box W.heap.size n).r) (hn : cs.size = n)
    (hr : ∀ w, (execOp a.eval o).run P w = .ok (.value (.pointer (some ⟨w.heap.size, 0, none⟩))) (w.alloc (.cells cs ty)))
    (h2 : ∀ lo, wpAll5 P ops C Sh R S W dep kd Q rest (i + 1) (a.put o.dst (.pointer (some ⟨lo, 0, none⟩))) (m.upd i (.pointer (some ⟨lo, 0, none⟩), lo, lo + 1))) : wpAll5 P ops C Sh R S W dep kd Q (o :: rest) i a m := by
  refine wpR_make5 cl hw hk (fun w hC hd => ?_) (fun v lo hi hs => ?_)
  · rw [hr]
    have hb : Below w.heap.size w (w.alloc (.cells cs ty)) := (Below.refl _ _).alloc (Nat.le_refl _) _
    refine ⟨hb, ?_, ?_⟩
    · rw [hsh]; exact ⟨rfl, by simp⟩
    · rw [hrr]; exact ⟨cl.size w hC, by simp, cs.toList, by simpa using hn, BoxF.alloc w cs ty⟩
  · rw [hsh] at hs
    obtain ⟨rfl, rfl⟩ := hs
    exact h2 lo
/-- A store into a box. -/
theorem wpR_store5 (cl : Cls W C) (d n lo : Nat) (p x : Value) (cs : List Value) (hw : Region.wanted o (yielded ops a.tmps) = true) (hk : kd i = .write d) (hd : R d = (Rel.box W.heap.size n).r) (hdep : d ∈ dep i) (hm : m d = some (p, lo, lo + 1)) (hst : o.stored a = x)
    (hri : ∀ w, BoxF w lo cs → R i x lo (lo + 1) w)
    (hr : ∀ w cs0, cs0.length = n → BoxF w lo cs0 → ∃ w', (execOp a.eval o).run P w = .ok .skip w' ∧ BoxF w' lo cs ∧ ChgS (fun b => b = lo) w w' ∧ w'.heap.size = w.heap.size) (hcs : cs.length = n)
    (h2 : wpAll5 P ops C Sh R S W dep kd Q rest (i + 1) (a.put o.dst undef) (m.upd i (x, lo, lo + 1))) : wpAll5 P ops C Sh R S W dep kd Q (o :: rest) i a m := by
  refine ⟨?_, fun v' u hv' => ?_⟩
  · unfold Obl5; rw [if_pos hw, hk]
    refine ⟨⟨_, _, _, hm⟩, ?_⟩
    intro w hC hE v lo' hi' hmd
    rw [hm] at hmd
    simp only [Option.some.injEq, Prod.mk.injEq] at hmd
    obtain ⟨rfl, rfl, rfl⟩ := hmd
    have h9 := (hE d hdep _ _ _ hm).1
    rw [hd] at h9
    obtain ⟨h9a, -, cs0, h9b, h9c⟩ := h9
    obtain ⟨w', hrun, hB, hCg, hsz⟩ := hr w cs0 h9b h9c
    rw [hrun]
    refine ⟨cl.set _ _ _ hC h9a hCg, hCg.mono fun b hb => by omega, hsz, ?_, ?_⟩
    · rw [hd]; exact ⟨h9a, rfl, cs, hcs, hB⟩
    · rw [hst]; exact hri w' hB
  · unfold Outs5 at hv'
    rw [if_pos hw, hk] at hv'
    obtain ⟨rfl, y, lo', hi', hmd, rfl⟩ := hv'
    rw [hm] at hmd
    simp only [Option.some.injEq, Prod.mk.injEq] at hmd
    obtain ⟨rfl, rfl, rfl⟩ := hmd
    rw [hst]
    exact h2
/-- What stands in S is read ahead of its change. -/
theorem wpR_look5 {SU : Nat → Prop} (j : Nat) (hw : Region.wanted o (yielded ops a.tmps) = true) (hk : kd i = .look j) (h : ∀ K : Act → Prop, (∀ a', wpAll5 P ops (fun w' => ∃ e : ExtS SU W, w' = e.w) Sh R S W dep kd Q rest (i + 1) a' m → K a') → ∃ v, (∀ w, (∃ e : ExtT SU (S j) W, w = e.w) → o.plainAt P a w v) ∧ K (a.put o.dst v)) : wpAll5 P ops (fun w' => ∃ e : ExtS SU W, w' = e.w) Sh R S W dep kd Q (o :: rest) i a m := by
  obtain ⟨v, h1, h2⟩ := h _ fun _ h => h
  refine ⟨?_, fun v' u hv' => ?_⟩
  · unfold Obl5; rw [if_pos hw, hk]; exact ⟨v, fun w ⟨e, he⟩ ho => h1 w ⟨⟨e.w, e.h, fun b hb => by rw [← he]; exact ho b hb⟩, he⟩⟩
  · unfold Outs5 at hv'
    rw [if_pos hw, hk] at hv'
    obtain ⟨rfl, h3⟩ := hv'
    obtain rfl : v' = v := plain_unique (h3 W ⟨⟨W, ChgS.refl SU W⟩, rfl⟩ fun _ _ => rfl) (h1 W ⟨⟨W, ChgS.refl SU W, fun _ _ => rfl⟩, rfl⟩)
    exact h2
/-- A store into S. -/
theorem wpR_put5 (x : Value) (r : Value → Nat → Nat → World → Prop) (hcl : ∀ w w', C w → ChgS (S i) w w' → C w') (hw : Region.wanted o (yielded ops a.tmps) = true) (hk : kd i = .change) (hsh : Sh i = (Rel.val undef).sh) (hrr : R i = r) (ht : ∀ v, o.told a v = x)
    (hr : ∀ w, C w → (∀ b, S i b → w.heap[b]? = W.heap[b]?) → ∃ w', (execOp a.eval o).run P w = .ok .skip w' ∧ ChgS (S i) w w' ∧ r x w.heap.size w'.heap.size w')
    (h2 : ∀ lo hi, wpAll5 P ops C Sh R S W dep kd Q rest (i + 1) (a.put o.dst undef) (m.upd i (x, lo, hi))) : wpAll5 P ops C Sh R S W dep kd Q (o :: rest) i a m := by
  refine ⟨?_, fun v' u hv' => ?_⟩
  · unfold Obl5; rw [if_pos hw, hk]
    intro w hC hd hS
    obtain ⟨w', h1, h3, h4⟩ := hr w hC hS
    rw [h1, hsh, hrr]
    exact ⟨hcl _ _ hC h3, h3, rfl, by rw [ht]; exact h4⟩
  · unfold Outs5 at hv'
    rw [if_pos hw, hk] at hv'
    obtain ⟨lo, hi, rfl, hs⟩ := hv'
    rw [hsh] at hs
    obtain rfl : v' = undef := hs
    rw [ht]
    exact h2 lo hi
theorem wpR_nil5 (h : Q a m) : wpAll5 P ops C Sh R S W dep kd Q [] i a m := h
theorem wpAll_mono5 {W0 : World} {Q1 Q2 : Act → Made → Prop} (hQ : ∀ a m, Q1 a m → Q2 a m) : ∀ (l' : List Oper) (i : Nat) (a : Act) (m : Made), wpAll5 P ops C Sh R S W0 dep kd Q1 l' i a m → wpAll5 P ops C Sh R S W0 dep kd Q2 l' i a m
  | [], i, a, m, h => hQ _ _ h
  | o :: l', i, a, m, h => ⟨h.1, fun v u hv => wpAll_mono5 hQ l' _ _ _ (h.2 v u hv)⟩

def kdL5 (l : List Kd5) (i : Nat) : Kd5 := (l[i]?).getD .plain
theorem kdL5_out {l : List Kd5} {n : Nat} (hl : Nat.ble l.length n = true) : ∀ j, n ≤ j → kdL5 l j = .plain := fun j hj => by
  have h9 : l.length ≤ j := Nat.le_trans (Nat.le_of_ble_eq_true hl) hj
  unfold kdL5
  rw [List.getElem?_eq_none h9]
  rfl
/-- The blocks that an operation writes into: by a list of pairs. -/
def chL (l : List (Nat × (Nat → Prop))) (i b : Nat) : Prop := ∃ p ∈ l, p.1 = i ∧ p.2 b
def chU (l : List (Nat × (Nat → Prop))) (b : Nat) : Prop := ∃ p ∈ l, p.2 b
theorem wp_region_many {id : Nat} {Q : Exit → Act → World → Prop} {a : Act} {w : World} {l : List Oper} (S : Nat → Nat → Prop) (SU : Nat → Prop) (R : Nat → Value → Nat → Nat → World → Prop) (rels : List Rel) (deps : List (List Nat)) (kds : List Kd5)
    (hm : P.follows .mixedOrders = true) (hB : Region.lexB .any l.toArray = true)
    (hdep : ((List.range l.length).all fun j => (depL deps j).all fun d => Region.waitsFor .any l.toArray j d) = true) (hkd : kdB5 l.toArray (depL deps) (kdL5 kds) = true) (hl : Nat.ble kds.length l.length = true)
    (hSU : ∀ i b, S i b → SU b) (hS : ∀ b, SU b → b < w.heap.size) (hSd : ∀ i j b, kdL5 kds i = .change → kdL5 kds j = .change → i ≠ j → S i b → ¬ S j b)
    (hRn : ∀ i, kdL5 kds i ≠ .change → R i = (relL rels i).r)
    (hRC : ∀ i, kdL5 kds i = .change → ∀ v lo hi w w', R i v lo hi w → hi ≤ w.heap.size → ChgS (fun b => ¬ (lo ≤ b ∧ b < hi) ∧ ¬ S i b) w w' → R i v lo hi w')
    (h : wpAll5 P l.toArray (fun w' => ∃ e : ExtS SU w, w' = e.w) (fun i => (relL rels i).sh) R S w (depL deps) (kdL5 kds) (fun a' m' => ∀ E : ExtS SU w, MadeAll5 R S w w.heap.size (kdL5 kds) m' E.w → Q .normal a' E.w) l 0 a Made.none) : (Code.region id l.toArray true).wp P Q a w :=
  wp_region_all5 (fun w' => ∃ e : ExtS SU w, w' = e.w) (fun i => (relL rels i).sh) R S (depL deps) (kdL5 kds) hm hB hdep hkd (kdL5_out hl) (fun i => (relL rels i).ex) (fun i b h => hS b (hSU i b h)) hSd (clsExtS SU w hS).size
    (fun i v lo hi w w' hr hs hC => by
      by_cases e : kdL5 kds i = .change
      · exact hRC i e v lo hi w w' hr hs (hC.mono fun b hb => ⟨hb.1, fun h9 => hb.2 ⟨e, h9⟩⟩)
      · rw [hRn i e] at hr ⊢
        exact (relL rels i).keep v lo hi w w' hr hs (hC.mono fun b hb => hb.1)) ⟨(⟨{ w with drawn := w.drawn + 1 }, ⟨rfl, rfl, rfl, Nat.le_refl _, fun _ _ _ => rfl⟩⟩ : ExtS SU w), rfl⟩
    (wpAll_mono5 (fun a m h w' ⟨E, hE⟩ hmm => by subst hE; exact h E hmm) _ _ _ _ h)
end
end Go
