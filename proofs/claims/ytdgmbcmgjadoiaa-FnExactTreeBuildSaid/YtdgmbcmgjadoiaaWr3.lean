/- What calls answer in a region that draws its order: lists of their own in a value of some form. Of any program. -/
import Derived.Test.YtdgmbcmgjadoiaaExt
import Derived.StillTail
import Derived.Test.YtdgmbcmgjadoiaaEnc5
/- A region that draws its order, in which calls and appends make memory: one walk of the text's order serves every order, where what each makes is said by a relation of its own. -/
namespace Go
open Go.RowKit
section
variable {P : Program} {ops : Array Oper} {md : Region.Mode} {C : World → Prop}

/-- What has been made: for an operation's place its value, and the heap's size ahead of it and behind. -/
def Made : Type := Nat → Option (Value × Nat × Nat)
def Made.none : Made := fun _ => Option.none
def Made.upd (m : Made) (i : Nat) (x : Value × Nat × Nat) : Made := fun k => if k = i then some x else m k
theorem Made.upd_comm (m : Made) {i j : Nat} (h : i ≠ j) (x y : Value × Nat × Nat) : (m.upd i x).upd j y = (m.upd j y).upd i x := by
  funext k
  simp only [Made.upd]
  by_cases h1 : k = i
  · subst h1; simp [h]
  · by_cases h2 : k = j
    · subst h2; simp [h1]
    · simp [h1, h2]
theorem Made.upd_same (m : Made) (i : Nat) (x : Value × Nat × Nat) : (m.upd i x) i = some x := by simp [Made.upd]
theorem Made.upd_ne (m : Made) {i k : Nat} (h : k ≠ i) (x : Value × Nat × Nat) : (m.upd i x) k = m k := by simp [Made.upd, h]

/-- What is known of what has been made, in a world. -/
structure MadeIn (R : Nat → Value → Nat → Nat → World → Prop) (m : Made) (w : World) : Prop where
  one : ∀ i v lo hi, m i = some (v, lo, hi) → R i v lo hi w ∧ hi ≤ w.heap.size
  two : ∀ i j v lo hi u lo' hi', i ≠ j → m i = some (v, lo, hi) → m j = some (u, lo', hi') → hi ≤ lo' ∨ hi' ≤ lo

def Oper.plainUpon (w : World) (v : Value) : Result Next → Prop
  | .ok (.value u) w' => w' = w ∧ u = v
  | .ok .skip w' => w' = w ∧ v = undef
  | _ => False
def Oper.plainAt (P : Program) (o : Oper) (a : Act) (w : World) (v : Value) : Prop := Oper.plainUpon w v ((execOp a.eval o).run P w)
def Oper.madeUpon (P : Program) (Good : Value → World → Prop) : Result Next → Prop
  | .ok (.value v) w' => Good v w'
  | .ok .skip w' => Good undef w'
  | .ok (.enter f args) w' => Calls P f args w' fun e w'' => ∃ v, e = .returned v ∧ Good v w''
  | _ => False
/-- What a maker makes, from each world of the class in which what it leans on is as it should be. -/
def Oper.makes (P : Program) (C : World → Prop) (R : Nat → Value → Nat → Nat → World → Prop) (dep : Nat → Option Nat) (i : Nat) (o : Oper) (a : Act) (m : Made) : Prop :=
  ∀ w, C w → (∀ d v lo hi, dep i = some d → m d = some (v, lo, hi) → R d v lo hi w ∧ hi ≤ w.heap.size) →
    Oper.madeUpon P (fun v w' => C w' ∧ Below w.heap.size w w' ∧ R i v w.heap.size w'.heap.size w') ((execOp a.eval o).run P w)

variable {R : Nat → Value → Nat → Nat → World → Prop} {dep : Nat → Option Nat} {mk : Nat → Bool}

def mOp (P : Program) (ops : Array Oper) (C : World → Prop) (R : Nat → Value → Nat → Nat → World → Prop) (dep : Nat → Option Nat) (mk : Nat → Bool) (i : Nat) (K : Act → Made → Prop) (a : Act) (m : Made) : Prop :=
  match ops[i]? with
  | none => K a m
  | some o => if Region.wanted o (yielded ops a.tmps) then
      (if mk i then o.makes P C R dep i a m ∧ ∀ v lo hi, K (a.put o.dst v) (m.upd i (v, lo, hi))
       else ∃ v, (∀ w, C w → o.plainAt P a w v) ∧ K (a.put o.dst v) m)
    else K (a.put o.dst undef) m

theorem mOp_mono {i : Nat} {a : Act} {m : Made} {K K' : Act → Made → Prop} (h : ∀ a m, K a m → K' a m) (hh : mOp P ops C R dep mk i K a m) : mOp P ops C R dep mk i K' a m := by
  unfold mOp at *
  split
  · exact h _ _ (by simpa [*] using hh)
  · rename_i o ho
    simp only [ho] at hh
    split
    · rename_i hw
      simp only [hw, if_true] at hh
      split
      · rename_i hk; simp only [hk, if_true] at hh; exact ⟨hh.1, fun v lo hi => h _ _ (hh.2 v lo hi)⟩
      · rename_i hk; simp only [hk] at hh; obtain ⟨v, h1, h2⟩ := hh; exact ⟨v, h1, h _ _ h2⟩
    · rename_i hw; simp only [hw] at hh; exact h _ _ hh

theorem plain_unique {o : Oper} {a : Act} {w : World} {v u : Value} (h1 : o.plainAt P a w v) (h2 : o.plainAt P a w u) : v = u := by
  unfold Oper.plainAt at h1 h2
  generalize (execOp a.eval o).run P w = r at h1 h2
  cases r with
  | ok n w' =>
    cases n <;> simp only [Oper.plainUpon] at h1 h2
    · exact h1.2.symm.trans h2.2
    · exact h1.2.trans h2.2.symm
  | halt x w' => simp only [Oper.plainUpon] at h1

theorem makes_put {o : Oper} {i : Nat} {a : Act} {m : Made} {d : Option Tmp} {v : Value} (hs : ∀ cs b, o.op ≠ .select cs b) (hd : ∀ t, d = some t → t ∉ o.looksAt ops) :
    o.makes P C R dep i (a.put d v) m ↔ o.makes P C R dep i a m := by
  unfold Oper.makes; rw [execOp_put o hs a d v hd]
theorem plain_put {o : Oper} {a : Act} {w : World} {d : Option Tmp} {v u : Value} (hs : ∀ cs b, o.op ≠ .select cs b) (hd : ∀ t, d = some t → t ∉ o.looksAt ops) :
    o.plainAt P (a.put d v) w u ↔ o.plainAt P a w u := by
  unfold Oper.plainAt; rw [execOp_put o hs a d v hd]
theorem makes_upd {o : Oper} {i j : Nat} {a : Act} {m : Made} {x : Value × Nat × Nat} (hd : dep i ≠ some j) : o.makes P C R dep i a (m.upd j x) ↔ o.makes P C R dep i a m := by
  unfold Oper.makes
  have e : ∀ w, (∀ d v lo hi, dep i = some d → (m.upd j x) d = some (v, lo, hi) → R d v lo hi w ∧ hi ≤ w.heap.size) ↔ (∀ d v lo hi, dep i = some d → m d = some (v, lo, hi) → R d v lo hi w ∧ hi ≤ w.heap.size) := fun w => by
    constructor
    · intro h d v lo hi h1 h2
      have hdj : d ≠ j := fun e => hd (e ▸ h1)
      exact h d v lo hi h1 (by rw [Made.upd_ne _ hdj]; exact h2)
    · intro h d v lo hi h1 h2
      have hdj : d ≠ j := fun e => hd (e ▸ h1)
      rw [Made.upd_ne _ hdj] at h2
      exact h d v lo hi h1 h2
  simp only [e]

/-- Two operations that are apart, and of which neither leans on the other, may be taken the other way round. -/
theorem mOp_swap {i j : Nat} {oi oj : Oper} {a : Act} {m : Made} {K : Act → Made → Prop} (hi : ops[i]? = some oi) (hj : ops[j]? = some oj) (hij : i ≠ j) (hap : oi.apart ops oj = true)
    (hsi : ∀ cs b, oi.op ≠ .select cs b) (hsj : ∀ cs b, oj.op ≠ .select cs b) (hdi : dep i ≠ some j) (hdj : dep j ≠ some i) (hC : ∃ w, C w)
    (h : mOp P ops C R dep mk i (fun a' m' => mOp P ops C R dep mk j K a' m') a m) : mOp P ops C R dep mk j (fun a' m' => mOp P ops C R dep mk i K a' m') a m := by
  obtain ⟨w0, hw0⟩ := hC
  obtain ⟨h1, h2, h3⟩ := Oper.apart_spec hap
  have pc : ∀ v u, (a.put oi.dst v).put oj.dst u = (a.put oj.dst u).put oi.dst v := fun v u => Act.put_comm a v u h2
  unfold mOp at h ⊢
  simp only [hi, hj] at h ⊢
  simp only [wanted_put oj a oi.dst _ h1] at h
  simp only [wanted_put oi a oj.dst _ h3]
  by_cases wi : Region.wanted oi (yielded ops a.tmps) = true
  · simp only [wi, if_true] at h ⊢
    by_cases wj : Region.wanted oj (yielded ops a.tmps) = true
    · simp only [wj, if_true] at h ⊢
      by_cases mi : mk i = true
      · simp only [mi, if_true] at h ⊢
        by_cases mj : mk j = true
        · simp only [mj, if_true] at h ⊢
          refine ⟨(makes_put hsj h1).1 ((makes_upd hdj).1 (h.2 undef 0 0).1), fun u lo hi => ⟨(makes_put hsi h3).2 ((makes_upd hdi).2 h.1), fun v lo' hi' => ?_⟩⟩
          rw [← pc, ← Made.upd_comm _ hij]; exact (h.2 v lo' hi').2 u lo hi
        · simp only [mj] at h ⊢
          obtain ⟨u, hu, _⟩ := h.2 undef 0 0
          refine ⟨u, fun w hw => (plain_put hsj h1).1 (hu w hw), (makes_put hsi h3).2 h.1, fun v lo hi => ?_⟩
          obtain ⟨u', hu', hK⟩ := h.2 v lo hi
          have : u' = u := plain_unique ((plain_put hsj h1).1 (hu' w0 hw0)) ((plain_put hsj h1).1 (hu w0 hw0))
          rw [← pc, ← this]; exact hK
      · simp only [mi] at h ⊢
        obtain ⟨v, hv, hr⟩ := h
        by_cases mj : mk j = true
        · simp only [mj, if_true] at hr ⊢
          refine ⟨(makes_put hsj h1).1 hr.1, fun u lo hi => ⟨v, fun w hw => (plain_put hsi h3).2 (hv w hw), ?_⟩⟩
          rw [← pc]; exact hr.2 u lo hi
        · simp only [mj] at hr ⊢
          obtain ⟨u, hu, hK⟩ := hr
          refine ⟨u, fun w hw => (plain_put hsj h1).1 (hu w hw), v, fun w hw => (plain_put hsi h3).2 (hv w hw), ?_⟩
          rw [← pc]; exact hK
    · simp only [wj] at h ⊢
      by_cases mi : mk i = true
      · simp only [mi, if_true] at h ⊢
        refine ⟨(makes_put hsi h3).2 h.1, fun v lo hi => ?_⟩
        rw [← pc]; exact h.2 v lo hi
      · simp only [mi] at h ⊢
        obtain ⟨v, hv, hK⟩ := h
        refine ⟨v, fun w hw => (plain_put hsi h3).2 (hv w hw), ?_⟩
        rw [← pc]; exact hK
  · simp only [wi] at h ⊢
    by_cases wj : Region.wanted oj (yielded ops a.tmps) = true
    · simp only [wj, if_true] at h ⊢
      by_cases mj : mk j = true
      · simp only [mj, if_true] at h ⊢
        refine ⟨(makes_put hsj h1).1 h.1, fun u lo hi => ?_⟩
        have := h.2 u lo hi
        rw [pc] at this; exact this
      · simp only [mj] at h ⊢
        obtain ⟨u, hu, hK⟩ := h
        refine ⟨u, fun w hw => (plain_put hsj h1).1 (hu w hw), ?_⟩
        rw [pc] at hK; exact hK
    · simp only [wj] at h ⊢
      have : K ((a.put oi.dst undef).put oj.dst undef) m := h
      rw [pc] at this; exact this

/-- Whatever order is picked from here on, as far as the heads go. -/
def wpAnyK (P : Program) (md : Region.Mode) (ops : Array Oper) (C : World → Prop) (R : Nat → Value → Nat → Nat → World → Prop) (dep : Nat → Option Nat) (mk : Nat → Bool) (n : Nat) (L : Array Bool → Act → Made → Prop) : Nat → Array Bool → Act → Made → Prop
  | 0, listed, a, m => L listed a m
  | f + 1, listed, a, m =>
    Region.ready md ops listed ≠ [] ∧ ∀ i ∈ Region.ready md ops listed, i < n ∧ mOp P ops C R dep mk i (wpAnyK P md ops C R dep mk n L f (listed.setIfInBounds i true)) a m

theorem wpAnyK_first {n i : Nat} {oi : Oper} {L : Array Bool → Act → Made → Prop} (hi : ops[i]? = some oi) (hsel : ∀ (j : Nat) (o : Oper) cs b, ops[j]? = some o → o.op ≠ .select cs b)
    (hs : Region.sinkB md ops n = true) (hc : Region.chainB md ops n = true) (hn : n < ops.size) (hin : i < n) (hC : ∃ w, C w)
    (hdep : ∀ j d oj, dep j = some d → ops[j]? = some oj → ∃ e ∈ oj.after, Region.binds md e = true ∧ e.on = d)
    (hdone : ∀ listed a m, L listed a m → ∀ j ∈ Region.ready md ops listed, n ≤ j) :
    ∀ (f : Nat) (listed : Array Bool) (a : Act) (m : Made), HeadInv md ops n listed →
      (∀ j oj, ops[j]? = some oj → j ≠ i → listed.getD j true = false → (∀ e ∈ oj.after, Region.binds md e = true → e.on ≠ i) → oi.apart ops oj = true) →
      i ∈ Region.ready md ops listed →
      mOp P ops C R dep mk i (wpAnyK P md ops C R dep mk n L f (listed.setIfInBounds i true)) a m → wpAnyK P md ops C R dep mk n L (f + 1) listed a m := by
  intro f
  induction f with
  | zero =>
    intro listed a m inv hfree hr H
    have hun := (mem_ready.1 hr).1
    refine ⟨fun h => (by rw [h] at hr; cases hr), fun j hj => ?_⟩
    have hjn : j < n := by
      rcases Nat.lt_or_ge j n with h | h
      · exact h
      · exact absurd hj (tail_waits hs hc hn inv _ i rfl hin hun j h)
    refine ⟨hjn, ?_⟩
    by_cases hji : j = i
    · subst hji; exact H
    · exfalso
      -- some outcome of i leads to L, which says that nothing below n is ready
      have hL : ∃ a' m', L (listed.setIfInBounds i true) a' m' := by
        unfold mOp at H
        simp only [hi] at H
        split at H
        · split at H
          · exact ⟨_, _, H.2 undef 0 0⟩
          · obtain ⟨v, _, h2⟩ := H; exact ⟨_, _, h2⟩
        · exact ⟨_, _, H⟩
      obtain ⟨a', m', hL⟩ := hL
      have := hdone _ _ _ hL j (ready_mono hj hji)
      omega
  | succ f ih =>
    intro listed a m inv hfree hr H
    have hun := (mem_ready.1 hr).1
    obtain ⟨_, oi', hoi', halli⟩ := mem_ready.1 hr
    have : oi' = oi := Option.some.inj (hoi'.symm.trans hi)
    subst this
    refine ⟨fun h => (by rw [h] at hr; cases hr), fun j hj => ?_⟩
    have hjn : j < n := by
      rcases Nat.lt_or_ge j n with h | h
      · exact h
      · exact absurd hj (tail_waits hs hc hn inv _ i rfl hin hun j h)
    refine ⟨hjn, ?_⟩
    by_cases hji : j = i
    · subst hji; exact H
    · obtain ⟨hjun, oj, hoj, hall⟩ := mem_ready.1 hj
      have hnot : ∀ e ∈ oj.after, Region.binds md e = true → e.on ≠ i := fun e he hb heq => by
        have h1 := hall e he hb
        rw [heq, getD_both hun] at h1
        cases h1
      have hnoti : ∀ e ∈ oi'.after, Region.binds md e = true → e.on ≠ j := fun e he hb heq => by
        have h1 := halli e he hb
        rw [heq, getD_both hjun] at h1
        cases h1
      have hdi : dep i ≠ some j := fun e => by
        obtain ⟨x, hx, hb, ho⟩ := hdep i j oi' e hi
        exact hnoti x hx hb ho
      have hdj : dep j ≠ some i := fun e => by
        obtain ⟨x, hx, hb, ho⟩ := hdep j i oj e hoj
        exact hnot x hx hb ho
      have hfree' : ∀ k ok, ops[k]? = some ok → k ≠ i → (listed.setIfInBounds j true).getD k true = false →
          (∀ e ∈ ok.after, Region.binds md e = true → e.on ≠ i) → oi'.apart ops ok = true := fun k ok hk hki hu hno => by
        refine hfree k ok hk hki ?_ hno
        by_cases hjk : j = k
        · subst hjk; exact hjun
        · rw [getD_set_ne true hjk] at hu; exact hu
      have H2 : mOp P ops C R dep mk i (fun a' m' => mOp P ops C R dep mk j (wpAnyK P md ops C R dep mk n L f ((listed.setIfInBounds i true).setIfInBounds j true)) a' m') a m :=
        mOp_mono (fun a' m' h => (h.2 j (ready_mono hj hji)).2) H
      have H3 := mOp_swap hi hoj (Ne.symm hji) (hfree j oj hoj hji hjun hnot) (fun cs b => hsel i oi' cs b hi) (fun cs b => hsel j oj cs b hoj) hdi hdj hC H2
      refine mOp_mono (fun a' m' h => ih (listed.setIfInBounds j true) a' m' (inv.set hj hjn) hfree' (ready_mono hr (Ne.symm hji)) ?_) H3
      rw [Array.setIfInBounds_comm _ _ hji]
      exact h

/-- The walk of the heads in the order of the text. -/
def wpMk (P : Program) (ops : Array Oper) (C : World → Prop) (R : Nat → Value → Nat → Nat → World → Prop) (dep : Nat → Option Nat) (mk : Nat → Bool) (Q : Act → Made → Prop) : List Oper → Nat → Act → Made → Prop
  | [], _, a, m => Q a m
  | o :: rest, i, a, m => if Region.wanted o (yielded ops a.tmps) then
      (if mk i then o.makes P C R dep i a m ∧ ∀ v lo hi, wpMk P ops C R dep mk Q rest (i + 1) (a.put o.dst v) (m.upd i (v, lo, hi))
       else ∃ v, (∀ w, C w → o.plainAt P a w v) ∧ wpMk P ops C R dep mk Q rest (i + 1) (a.put o.dst v) m)
    else wpMk P ops C R dep mk Q rest (i + 1) (a.put o.dst undef) m

theorem wpAnyK_lex {n g : Nat} {Lq : Act → Made → Prop} (hsel : Region.noSelect ops = true) (hs : Region.sinkB md ops n = true) (hc : Region.chainB md ops n = true) (hn : n < ops.size) (hC : ∃ w, C w)
    (hdep : ∀ j d oj, dep j = some d → ops[j]? = some oj → ∃ e ∈ oj.after, Region.binds md e = true ∧ e.on = d) :
    ∀ (l : List Oper) (k : Nat) (listed : Array Bool) (a : Act) (m : Made), (∀ j, j < l.length → l[j]? = ops[k + j]?) → k + l.length = n → HeadInv md ops n listed →
    Region.lexHead md ops g l.length k listed = true → wpMk P ops C R dep mk Lq l k a m →
    wpAnyK P md ops C R dep mk n (fun listed' a' m' => Region.seqB md ops g n listed' = true ∧ Lq a' m') l.length listed a m
  | [], k, listed, a, m, _, hk, _, hB, h => by
    have : k = n := by simpa using hk
    subst this
    exact ⟨by simpa [Region.lexHead] using hB, h⟩
  | o :: l, k, listed, a, m, hl, hk, inv, hB, h => by
    have h0 : ops[k]? = some o := by simpa using (hl 0 (by simp)).symm
    simp only [List.length_cons, Region.lexHead, Bool.and_eq_true] at hB
    obtain ⟨⟨hr, hf⟩, hB'⟩ := hB
    have hkn : k < n := by simp only [List.length_cons] at hk; omega
    have hr' : k ∈ Region.ready md ops listed := by simpa using hr
    have hst : mOp P ops C R dep mk k (wpMk P ops C R dep mk Lq l (k + 1)) a m := by unfold mOp; simp only [h0]; exact h
    refine wpAnyK_first h0 (Region.noSelect_spec hsel) hs hc hn hkn hC hdep (fun listed' a' m' hL => seqB_ready hL.1) l.length listed a m inv (Region.free_spec h0 hf) hr' (mOp_mono (fun a' m' h' => ?_) hst)
    exact wpAnyK_lex hsel hs hc hn hC hdep l (k + 1) _ a' m' (fun j hj => by have := hl (j + 1) (by simp; omega); simpa [Nat.add_assoc, Nat.add_comm 1 j] using this) (by simp only [List.length_cons] at hk; omega) (inv.set hr' hkn) hB' h'

theorem wp_of_plain {o : Oper} {a : Act} {w : World} {v : Value} {K : Act → World → Prop} {Q : Exit → Act → World → Prop} (h : o.plainAt P a w v) (hK : K (a.put o.dst v) w) : o.wp P a w K Q := by
  unfold Oper.plainAt at h
  unfold Oper.wp
  generalize (execOp a.eval o).run P w = r at *
  cases r with
  | ok n w' =>
    cases n <;> simp only [Oper.plainUpon] at h <;> simp only [Oper.upon]
    · obtain ⟨rfl, rfl⟩ := h; exact hK
    · obtain ⟨rfl, rfl⟩ := h; exact hK
  | halt x w' => simp only [Oper.plainUpon] at h
theorem wp_of_made {o : Oper} {a : Act} {w : World} {Good : Value → World → Prop} {K : Act → World → Prop} {Q : Exit → Act → World → Prop} (h : Oper.madeUpon P Good ((execOp a.eval o).run P w)) (hK : ∀ v w', Good v w' → K (a.put o.dst v) w') : o.wp P a w K Q := by
  unfold Oper.wp
  generalize (execOp a.eval o).run P w = r at *
  cases r with
  | ok n w' =>
    cases n <;> simp only [Oper.madeUpon] at h <;> simp only [Oper.upon]
    · exact hK _ _ h
    · exact hK _ _ h
    · refine h.mono fun e w'' ⟨v, he, hg⟩ => ?_
      subst he; exact hK _ _ hg
  | halt x w' => simp only [Oper.madeUpon] at h

theorem wpAny_of_K {n g : Nat} {L : Array Bool → Act → Made → Prop} {Q' : Exit → Act → World → Prop} (hsz : n < ops.size)
    (hR : ∀ i v lo hi w w', R i v lo hi w → hi ≤ w.heap.size → Below w.heap.size w w' → R i v lo hi w')
    (hL : ∀ listed a m w, L listed a m → C w → MadeIn R m w → wpAny P md ops Q' g listed a w) :
    ∀ (f : Nat) (listed : Array Bool) (a : Act) (m : Made) (w : World), listed.size = ops.size → C w → MadeIn R m w → (∀ i, m i ≠ none → listed.getD i false = true) → wpAnyK P md ops C R dep mk n L f listed a m → wpAny P md ops Q' (f + g) listed a w
  | 0, listed, a, m, w, _, hw, hm, _, h => by rw [Nat.zero_add]; exact hL _ _ _ _ h hw hm
  | f + 1, listed, a, m, w, hls, hw, hm, hlm, h => by
    rw [show f + 1 + g = (f + g) + 1 by omega]
    refine ⟨fun h0 => absurd h0 h.1, fun i hi => ?_⟩
    have h1 := (h.2 i hi).2
    have hun := (mem_ready.1 hi).1
    have hnone : m i = none := by
      cases e : m i with
      | none => rfl
      | some x => have := hlm i (by rw [e]; simp); rw [getD_both hun] at this; cases this
    have hio : i < ops.size := by obtain ⟨_, o, ho, _⟩ := mem_ready.1 hi; exact (Array.getElem?_eq_some_iff.1 ho).1
    have hlm' : ∀ k, m k ≠ none → (listed.setIfInBounds i true).getD k false = true := fun k hk => getD_set_true (hlm k hk)
    unfold mOp at h1
    unfold wpOp
    split
    · rename_i ho; simp only [ho] at h1
      exact wpAny_of_K hsz hR hL f _ _ _ _ (by simpa using hls) hw hm hlm' h1
    · rename_i o ho
      simp only [ho] at h1
      split
      · rename_i hwt
        simp only [hwt, if_true] at h1
        refine .inl ?_
        split at h1
        · refine wp_of_made (h1.1 w hw fun d v lo hi _ hd => hm.one d v lo hi hd) fun v w' ⟨c1, c2, c3⟩ => ?_
          refine wpAny_of_K hsz hR hL f _ _ _ w' (by simpa using hls) c1 ⟨fun k u lo hi hk => ?_, fun k l u lo hi u' lo' hi' hkl hk hl => ?_⟩ (fun k hk => ?_) (h1.2 v w.heap.size w'.heap.size)
          · by_cases e : k = i
            · subst e; rw [Made.upd_same] at hk
              simp only [Option.some.injEq, Prod.mk.injEq] at hk
              obtain ⟨rfl, rfl, rfl⟩ := hk
              exact ⟨c3, Nat.le_refl _⟩
            · rw [Made.upd_ne _ e] at hk
              obtain ⟨r1, r2⟩ := hm.one k u lo hi hk
              exact ⟨hR _ _ _ _ _ _ r1 r2 c2, Nat.le_trans r2 c2.size⟩
          · by_cases e : k = i
            · subst e; rw [Made.upd_same] at hk
              rw [Made.upd_ne _ (Ne.symm hkl)] at hl
              simp only [Option.some.injEq, Prod.mk.injEq] at hk
              obtain ⟨rfl, rfl, rfl⟩ := hk
              exact .inr (hm.one l _ _ _ hl).2
            · rw [Made.upd_ne _ e] at hk
              by_cases e2 : l = i
              · subst e2; rw [Made.upd_same] at hl
                simp only [Option.some.injEq, Prod.mk.injEq] at hl
                obtain ⟨rfl, rfl, rfl⟩ := hl
                exact .inl (hm.one k _ _ _ hk).2
              · rw [Made.upd_ne _ e2] at hl
                exact hm.two k l _ _ _ _ _ _ hkl hk hl
          · by_cases e : k = i
            · subst e
              have : k < listed.size := by rw [hls]; exact hio
              simp [this]
            · rw [Made.upd_ne _ e] at hk; exact hlm' k hk
        · obtain ⟨v, hv, hK⟩ := h1
          exact wp_of_plain (hv w hw) (wpAny_of_K hsz hR hL f _ _ _ _ (by simpa using hls) hw hm hlm' hK)
      · rename_i hwt
        simp only [hwt] at h1
        exact wpAny_of_K hsz hR hL f _ _ _ _ (by simpa using hls) hw hm hlm' h1

/-- **A region that draws its order: its first n operations in whatever order, makers among them; then the others, one by one.** -/
theorem wp_region_makers {id : Nat} {Q : Exit → Act → World → Prop} {a : Act} {w : World} {l : List Oper} (n : Nat) (C : World → Prop) (R : Nat → Value → Nat → Nat → World → Prop) (dep : Nat → Option Nat) (mk : Nat → Bool)
    (hm : P.follows .mixedOrders = true) (hB : Region.lexTailB .any l.toArray n = true)
    (hdep : ((List.range n).all fun j => match dep j with | some d => Region.waitsFor .any l.toArray j d | none => true) = true) (hdn : ∀ j, n ≤ j → dep j = none)
    (hR : ∀ i v lo hi w w', R i v lo hi w → hi ≤ w.heap.size → Below w.heap.size w w' → R i v lo hi w')
    (hC : C { w with drawn := w.drawn + 1 })
    (h : wpMk P l.toArray C R dep mk (fun a' m' => ∀ w', C w' → MadeIn R m' w' → wpList P l.toArray Q (l.drop n) a' w') (l.take n) 0 a Made.none) : (Code.region id l.toArray true).wp P Q a w := by
  simp only [Region.lexTailB, Bool.and_eq_true, decide_eq_true_eq] at hB
  obtain ⟨⟨⟨⟨hsel, hn⟩, hs⟩, hc⟩, hlex⟩ := hB
  have hn' : n < l.length := by simpa using hn
  have htl : (l.take n).length = n := by simp; omega
  have hdl : (l.drop n).length = l.toArray.size - n := by simp
  have inv0 : HeadInv .any l.toArray n (Array.replicate l.toArray.size false) :=
    ⟨by simp, fun j oj _ hl => (by rw [getD_replicate_false] at hl; cases hl), fun t _ ht => getD_in (by simpa using ht) (getD_replicate_false _ _)⟩
  have hdep' : ∀ j d oj, dep j = some d → l.toArray[j]? = some oj → ∃ e ∈ oj.after, Region.binds .any e = true ∧ e.on = d := fun j d oj hj hoj => by
    rcases Nat.lt_or_ge j n with h | h
    · have := List.all_eq_true.1 hdep j (List.mem_range.2 h)
      simp only [hj] at this
      obtain ⟨oj', ho', e, he, hb, hon⟩ := Region.waitsFor_spec this
      have : oj' = oj := Option.some.inj (ho'.symm.trans hoj)
      subst this
      exact ⟨e, he, hb, hon⟩
    · rw [hdn j h] at hj; cases hj
  have H := wpAnyK_lex (md := .any) (g := l.toArray.size - n) hsel hs hc hn ⟨_, hC⟩ hdep' (l.take n) 0 _ a Made.none (fun j hj => by
    have hj' : j < n := by rw [htl] at hj; exact hj
    simp [hj']) (by simpa using htl) inv0 (by rw [htl]; exact hlex) h
  refine wp_region_any hm ?_
  have := wpAny_of_K (Q' := Q) (g := l.toArray.size - n) hn hR (fun listed a' m' w' hL hw hmd => by
    have := wpAny_of_seq (md := .any) (Q' := Q) (l.drop n) n listed a' w' (fun j => by simp [List.getElem?_drop]) (by rw [hdl]; exact hL.1) (hL.2 w' hw hmd)
    rwa [hdl] at this) _ _ _ _ _ (by simp) hC ⟨fun i v lo hi h => (by cases h), fun i j v lo hi u lo' hi' _ h => (by cases h)⟩ (fun i h => absurd rfl h) H
  rw [htl, show n + (l.toArray.size - n) = l.toArray.size by omega] at this
  exact this
end
end Go
/- A region that draws its order: operations that only read, makers of memory, and stores into what has been made there: one walk of the text's order serves every order. Of any program. -/
namespace Go
open Go.RowKit Go.Own
/-- What an operation of the region is: it only reads; it makes memory; it stores into what the operation d has made; it writes into blocks that were there (S); it reads what stands in these ahead of that. -/
inductive Kd where
  | plain
  | make
  | write (d : Nat)
  | change
  | look
deriving DecidableEq
section
variable {P : Program} {ops : Array Oper} {md : Region.Mode} {C : World → Prop} {Sh : Nat → Value → Nat → Nat → Prop} {R : Nat → Value → Nat → Nat → World → Prop} {dep : Nat → List Nat} {kd : Nat → Kd} {S : Nat → Prop} {W0 : World} {N : Nat}
def Oper.stored (o : Oper) (a : Act) : Value := match o.op with | .store _ _ v => a.eval v | _ => undef
theorem stored_put {o : Oper} {a : Act} {d : Option Tmp} {v : Value} (hd : ∀ t, d = some t → t ∉ o.looksAt ops) : o.stored (a.put d v) = o.stored a := by
  unfold Oper.stored
  split
  · rename_i t p x ho
    refine Act.eval_put fun t' ht hx => hd t' ht ?_
    refine List.mem_append_left _ (List.mem_filterMap.2 ⟨.tmp t', ?_, rfl⟩)
    rw [ho, ← hx]
    simp [Op.operands]
  · rfl
/-- What is kept of an operation that writes into S: the value stored, or answered. -/
def Oper.told (o : Oper) (a : Act) (v : Value) : Value := match o.op with | .store _ _ x => a.eval x | _ => v
theorem told_put {o : Oper} {a : Act} {d : Option Tmp} {v x : Value} (hd : ∀ t, d = some t → t ∉ o.looksAt ops) : o.told (a.put d v) x = o.told a x := by
  unfold Oper.told
  split
  · rename_i t p y ho
    refine Act.eval_put fun t' ht hx => hd t' ht ?_
    refine List.mem_append_left _ (List.mem_filterMap.2 ⟨.tmp t', ?_, rfl⟩)
    rw [ho, ← hx]
    simp [Op.operands]
  · rfl
/-- What is known of the operations that one leans on. -/
def Deps (R : Nat → Value → Nat → Nat → World → Prop) (dep : Nat → List Nat) (i : Nat) (m : Made) (w : World) : Prop := ∀ d ∈ dep i, ∀ v lo hi, m d = some (v, lo, hi) → R d v lo hi w ∧ hi ≤ w.heap.size
def Oper.makes2 (P : Program) (C : World → Prop) (Sh : Nat → Value → Nat → Nat → Prop) (R : Nat → Value → Nat → Nat → World → Prop) (dep : Nat → List Nat) (i : Nat) (o : Oper) (a : Act) (m : Made) : Prop :=
  ∀ w, C w → Deps R dep i m w → Oper.madeUpon P (fun v w' => C w' ∧ Below w.heap.size w w' ∧ Sh i v w.heap.size w'.heap.size ∧ R i v w.heap.size w'.heap.size w') ((execOp a.eval o).run P w)
def Oper.changes (P : Program) (C : World → Prop) (Sh : Nat → Value → Nat → Nat → Prop) (R : Nat → Value → Nat → Nat → World → Prop) (S : Nat → Prop) (W0 : World) (dep : Nat → List Nat) (i : Nat) (o : Oper) (a : Act) (m : Made) : Prop :=
  ∀ w, C w → Deps R dep i m w → (∀ b, S b → w.heap[b]? = W0.heap[b]?) → Oper.madeUpon P (fun v w' => C w' ∧ ChgS S w w' ∧ Sh i v w.heap.size w'.heap.size ∧ R i (o.told a v) w.heap.size w'.heap.size w') ((execOp a.eval o).run P w)
def Oper.wroteUpon (Good : World → Prop) : Result Next → Prop
  | .ok (.value v) w' => v = undef ∧ Good w'
  | .ok .skip w' => Good w'
  | _ => False
def Oper.writes (P : Program) (C : World → Prop) (R : Nat → Value → Nat → Nat → World → Prop) (dep : Nat → List Nat) (i d : Nat) (o : Oper) (a : Act) (m : Made) : Prop :=
  ∀ w, C w → Deps R dep i m w → ∀ v lo hi, m d = some (v, lo, hi) → Oper.wroteUpon (fun w' => C w' ∧ ChgS (fun b => lo ≤ b ∧ b < hi) w w' ∧ w'.heap.size = w.heap.size ∧ R d v lo hi w' ∧ R i (o.stored a) lo hi w') ((execOp a.eval o).run P w)
def Made.app (m : Made) (i : Nat) : Option (Value × Nat × Nat) → Made
  | .none => m
  | .some x => m.upd i x
/-- What is owed at an operation. -/
def Obl (P : Program) (ops : Array Oper) (C : World → Prop) (Sh : Nat → Value → Nat → Nat → Prop) (R : Nat → Value → Nat → Nat → World → Prop) (S : Nat → Prop) (W0 : World) (dep : Nat → List Nat) (kd : Nat → Kd) (i : Nat) (o : Oper) (a : Act) (m : Made) : Prop :=
  if Region.wanted o (yielded ops a.tmps) = true then
    match kd i with
    | .plain => ∃ v, ∀ w, C w → o.plainAt P a w v
    | .make => o.makes2 P C Sh R dep i a m
    | .change => o.changes P C Sh R S W0 dep i a m
    | .look => ∃ v, ∀ w, C w → (∀ b, S b → w.heap[b]? = W0.heap[b]?) → o.plainAt P a w v
    | .write d => (∃ v lo hi, m d = some (v, lo, hi)) ∧ o.writes P C R dep i d a m
  else True
/-- What may come of it. -/
def Outs (P : Program) (ops : Array Oper) (C : World → Prop) (Sh : Nat → Value → Nat → Nat → Prop) (S : Nat → Prop) (W0 : World) (kd : Nat → Kd) (i : Nat) (o : Oper) (a : Act) (m : Made) (v : Value) (u : Option (Value × Nat × Nat)) : Prop :=
  if Region.wanted o (yielded ops a.tmps) = true then
    match kd i with
    | .plain => u = none ∧ ∀ w, C w → o.plainAt P a w v
    | .make => ∃ lo hi, u = some (v, lo, hi) ∧ Sh i v lo hi
    | .change => ∃ lo hi, u = some (o.told a v, lo, hi) ∧ Sh i v lo hi
    | .look => u = none ∧ ∀ w, C w → (∀ b, S b → w.heap[b]? = W0.heap[b]?) → o.plainAt P a w v
    | .write d => v = undef ∧ ∃ x lo hi, m d = some (x, lo, hi) ∧ u = some (o.stored a, lo, hi)
  else v = undef ∧ u = none
def aOp (P : Program) (ops : Array Oper) (C : World → Prop) (Sh : Nat → Value → Nat → Nat → Prop) (R : Nat → Value → Nat → Nat → World → Prop) (S : Nat → Prop) (W0 : World) (dep : Nat → List Nat) (kd : Nat → Kd) (i : Nat) (K : Act → Made → Prop) (a : Act) (m : Made) : Prop :=
  match ops[i]? with
  | none => K a m
  | some o => Obl P ops C Sh R S W0 dep kd i o a m ∧ ∀ v u, Outs P ops C Sh S W0 kd i o a m v u → K (a.put o.dst v) (m.app i u)
theorem aOp_mono {i : Nat} {a : Act} {m : Made} {K K' : Act → Made → Prop} (h : ∀ a m, K a m → K' a m) (hh : aOp P ops C Sh R S W0 dep kd i K a m) : aOp P ops C Sh R S W0 dep kd i K' a m := by
  unfold aOp at *
  split
  · exact h _ _ (by simpa [*] using hh)
  · rename_i o ho
    simp only [ho] at hh
    exact ⟨hh.1, fun v u hv => h _ _ (hh.2 v u hv)⟩
theorem outs_ex {i : Nat} {o : Oper} {a : Act} {m : Made} (hSh : ∀ i, ∃ v lo hi, Sh i v lo hi) (h : Obl P ops C Sh R S W0 dep kd i o a m) : ∃ v u, Outs P ops C Sh S W0 kd i o a m v u := by
  unfold Obl at h; unfold Outs
  by_cases hw : Region.wanted o (yielded ops a.tmps) = true
  · simp only [hw, if_true] at h ⊢
    cases e : kd i with
    | plain => simp only [e] at h ⊢; obtain ⟨v, hv⟩ := h; exact ⟨v, none, rfl, hv⟩
    | make => simp only [] at h ⊢; obtain ⟨v, lo, hi, hs⟩ := hSh i; exact ⟨v, _, lo, hi, rfl, hs⟩
    | change => simp only [] at h ⊢; obtain ⟨v, lo, hi, hs⟩ := hSh i; exact ⟨v, _, lo, hi, rfl, hs⟩
    | look => simp only [e] at h ⊢; obtain ⟨v, hv⟩ := h; exact ⟨v, none, rfl, hv⟩
    | write d => simp only [e] at h ⊢; obtain ⟨⟨v, lo, hi, hm⟩, _⟩ := h; exact ⟨undef, _, rfl, v, lo, hi, hm, rfl⟩
  · simp only [hw] at h ⊢; exact ⟨undef, none, rfl, rfl⟩
/-- What an operation owes and what may come of it: the same behind another one on which it does not lean. -/
theorem app_ne (m : Made) {i k : Nat} (h : k ≠ i) (u : Option (Value × Nat × Nat)) : (m.app i u) k = m k := by
  cases u with
  | none => rfl
  | some x => exact Made.upd_ne m h x
theorem deps_app {i j : Nat} {m : Made} {w : World} {u : Option (Value × Nat × Nat)} (hd : j ∉ dep i) : Deps R dep i (m.app j u) w ↔ Deps R dep i m w := by
  unfold Deps
  constructor
  · intro h d hdi v lo hi hm; exact h d hdi v lo hi (by rw [app_ne (k := d) (i := j) m (fun e => hd (by subst e; exact hdi))]; exact hm)
  · intro h d hdi v lo hi hm; exact h d hdi v lo hi (by rw [app_ne (k := d) (i := j) m (fun e => hd (by subst e; exact hdi))] at hm; exact hm)
theorem obl_app {i j : Nat} {o : Oper} {a : Act} {m : Made} {d : Option Tmp} {v : Value} {u : Option (Value × Nat × Nat)} (hs : ∀ cs b, o.op ≠ .select cs b) (hd : ∀ t, d = some t → t ∉ o.looksAt ops) (hj : j ∉ dep i) (hk : ∀ d, kd i = .write d → d ∈ dep i) :
    Obl P ops C Sh R S W0 dep kd i o (a.put d v) (m.app j u) ↔ Obl P ops C Sh R S W0 dep kd i o a m := by
  unfold Obl
  rw [wanted_put o a d v hd]
  split
  · cases e : kd i with
    | plain => simp only [Oper.plainAt, execOp_put o hs a d v hd]
    | make => simp only [Oper.makes2, execOp_put o hs a d v hd, deps_app hj]
    | change => simp only [Oper.changes, execOp_put o hs a d v hd, deps_app hj, told_put hd]
    | look => simp only [Oper.plainAt, execOp_put o hs a d v hd]
    | write t =>
      have ht : t ≠ j := fun e9 => hj (by have h8 := hk t e; rw [e9] at h8; exact h8)
      simp only [Oper.writes, execOp_put o hs a d v hd, deps_app hj, app_ne m ht, stored_put hd]
  · exact Iff.rfl
theorem outs_app {i j : Nat} {o : Oper} {a : Act} {m : Made} {d : Option Tmp} {v v' : Value} {u u' : Option (Value × Nat × Nat)} (hs : ∀ cs b, o.op ≠ .select cs b) (hd : ∀ t, d = some t → t ∉ o.looksAt ops) (hj : j ∉ dep i) (hk : ∀ d, kd i = .write d → d ∈ dep i) :
    Outs P ops C Sh S W0 kd i o (a.put d v) (m.app j u) v' u' ↔ Outs P ops C Sh S W0 kd i o a m v' u' := by
  unfold Outs
  rw [wanted_put o a d v hd]
  split
  · cases e : kd i with
    | plain => simp only [Oper.plainAt, execOp_put o hs a d v hd]
    | make => exact Iff.rfl
    | change => simp only [told_put hd]
    | look => simp only [Oper.plainAt, execOp_put o hs a d v hd]
    | write t =>
      have ht : t ≠ j := fun e9 => hj (by have h8 := hk t e; rw [e9] at h8; exact h8)
      simp only [app_ne m ht, stored_put hd]
  · exact Iff.rfl
theorem app_comm (m : Made) {i j : Nat} (h : i ≠ j) (x y : Option (Value × Nat × Nat)) : (m.app i x).app j y = (m.app j y).app i x := by
  cases x <;> cases y <;> first | rfl | exact Made.upd_comm m h _ _
theorem aOp_swap {i j : Nat} {oi oj : Oper} {a : Act} {m : Made} {K : Act → Made → Prop} (hi : ops[i]? = some oi) (hj : ops[j]? = some oj) (hij : i ≠ j) (hap : oi.apart ops oj = true)
    (hsi : ∀ cs b, oi.op ≠ .select cs b) (hsj : ∀ cs b, oj.op ≠ .select cs b) (hdi : j ∉ dep i) (hdj : i ∉ dep j) (hk : ∀ i d, kd i = .write d → d ∈ dep i) (hSh : ∀ i, ∃ v lo hi, Sh i v lo hi)
    (h : aOp P ops C Sh R S W0 dep kd i (fun a' m' => aOp P ops C Sh R S W0 dep kd j K a' m') a m) : aOp P ops C Sh R S W0 dep kd j (fun a' m' => aOp P ops C Sh R S W0 dep kd i K a' m') a m := by
  obtain ⟨h1, h2, h3⟩ := Oper.apart_spec hap
  unfold aOp at h ⊢
  simp only [hi, hj] at h ⊢
  obtain ⟨o1, k1⟩ := h
  obtain ⟨v0, u0, ho0⟩ := outs_ex hSh o1
  refine ⟨(obl_app hsj h1 hdj (hk j)).1 (k1 v0 u0 ho0).1, fun v u hv => ⟨(obl_app hsi h3 hdi (hk i)).2 o1, fun v' u' hv' => ?_⟩⟩
  have hv1 := (outs_app hsi h3 hdi (hk i)).1 hv'
  have h9 := (k1 v' u' hv1).2 v u ((outs_app hsj h1 hdj (hk j)).2 hv)
  rw [← Act.put_comm a v' v h2, ← app_comm m hij]
  exact h9
/-- Whatever order is picked from here on. -/
def wpAllK (P : Program) (md : Region.Mode) (ops : Array Oper) (C : World → Prop) (Sh : Nat → Value → Nat → Nat → Prop) (R : Nat → Value → Nat → Nat → World → Prop) (S : Nat → Prop) (W0 : World) (dep : Nat → List Nat) (kd : Nat → Kd) (L : Act → Made → Prop) : Nat → Array Bool → Act → Made → Prop
  | 0, listed, a, m => Region.ready md ops listed = [] ∧ L a m
  | f + 1, listed, a, m => Region.ready md ops listed ≠ [] ∧ ∀ i ∈ Region.ready md ops listed, aOp P ops C Sh R S W0 dep kd i (wpAllK P md ops C Sh R S W0 dep kd L f (listed.setIfInBounds i true)) a m
theorem wpAllK_first {i : Nat} {oi : Oper} {L : Act → Made → Prop} (hi : ops[i]? = some oi) (hsel : ∀ (j : Nat) (o : Oper) cs b, ops[j]? = some o → o.op ≠ .select cs b) (hSh : ∀ i, ∃ v lo hi, Sh i v lo hi) (hk : ∀ i d, kd i = .write d → d ∈ dep i)
    (hdep : ∀ j oj, ops[j]? = some oj → ∀ d ∈ dep j, ∃ e ∈ oj.after, Region.binds md e = true ∧ e.on = d) :
    ∀ (f : Nat) (listed : Array Bool) (a : Act) (m : Made),
      (∀ j oj, ops[j]? = some oj → j ≠ i → listed.getD j true = false → (∀ e ∈ oj.after, Region.binds md e = true → e.on ≠ i) → oi.apart ops oj = true) →
      i ∈ Region.ready md ops listed →
      aOp P ops C Sh R S W0 dep kd i (wpAllK P md ops C Sh R S W0 dep kd L f (listed.setIfInBounds i true)) a m → wpAllK P md ops C Sh R S W0 dep kd L (f + 1) listed a m := by
  intro f
  induction f with
  | zero =>
    intro listed a m hfree hr H
    refine ⟨fun h => (by rw [h] at hr; cases hr), fun j hj => ?_⟩
    by_cases hji : j = i
    · subst hji; exact H
    · exfalso
      unfold aOp at H
      simp only [hi] at H
      obtain ⟨v, u, ho⟩ := outs_ex hSh H.1
      have h9 := (H.2 v u ho).1
      have := ready_mono hj hji
      rw [h9] at this
      cases this
  | succ f ih =>
    intro listed a m hfree hr H
    have hun := (mem_ready.1 hr).1
    obtain ⟨_, oi', hoi', halli⟩ := mem_ready.1 hr
    have : oi' = oi := Option.some.inj (hoi'.symm.trans hi)
    subst this
    refine ⟨fun h => (by rw [h] at hr; cases hr), fun j hj => ?_⟩
    by_cases hji : j = i
    · subst hji; exact H
    · obtain ⟨hjun, oj, hoj, hall⟩ := mem_ready.1 hj
      have hnot : ∀ e ∈ oj.after, Region.binds md e = true → e.on ≠ i := fun e he hb heq => by
        have h1 := hall e he hb
        rw [heq, getD_both hun] at h1
        cases h1
      have hnoti : ∀ e ∈ oi'.after, Region.binds md e = true → e.on ≠ j := fun e he hb heq => by
        have h1 := halli e he hb
        rw [heq, getD_both hjun] at h1
        cases h1
      have hdi : j ∉ dep i := fun e => by
        obtain ⟨x, hx, hb, ho⟩ := hdep i oi' hi j e
        exact hnoti x hx hb ho
      have hdj : i ∉ dep j := fun e => by
        obtain ⟨x, hx, hb, ho⟩ := hdep j oj hoj i e
        exact hnot x hx hb ho
      have hfree' : ∀ k ok, ops[k]? = some ok → k ≠ i → (listed.setIfInBounds j true).getD k true = false →
          (∀ e ∈ ok.after, Region.binds md e = true → e.on ≠ i) → oi'.apart ops ok = true := fun k ok hk hki hu hno => by
        refine hfree k ok hk hki ?_ hno
        by_cases hjk : j = k
        · subst hjk; exact hjun
        · rw [getD_set_ne true hjk] at hu; exact hu
      have H2 : aOp P ops C Sh R S W0 dep kd i (fun a' m' => aOp P ops C Sh R S W0 dep kd j (wpAllK P md ops C Sh R S W0 dep kd L f ((listed.setIfInBounds i true).setIfInBounds j true)) a' m') a m :=
        aOp_mono (fun a' m' h => h.2 j (ready_mono hj hji)) H
      have H3 := aOp_swap hi hoj (Ne.symm hji) (hfree j oj hoj hji hjun hnot) (fun cs b => hsel i oi' cs b hi) (fun cs b => hsel j oj cs b hoj) hdi hdj hk hSh H2
      refine aOp_mono (fun a' m' h => ih (listed.setIfInBounds j true) a' m' hfree' (ready_mono hr (Ne.symm hji)) ?_) H3
      rw [Array.setIfInBounds_comm _ _ hji]
      exact h
/-- The walk in the order of the text. -/
def wpAll (P : Program) (ops : Array Oper) (C : World → Prop) (Sh : Nat → Value → Nat → Nat → Prop) (R : Nat → Value → Nat → Nat → World → Prop) (S : Nat → Prop) (W0 : World) (dep : Nat → List Nat) (kd : Nat → Kd) (Q : Act → Made → Prop) : List Oper → Nat → Act → Made → Prop
  | [], _, a, m => Q a m
  | o :: rest, i, a, m => Obl P ops C Sh R S W0 dep kd i o a m ∧ ∀ v u, Outs P ops C Sh S W0 kd i o a m v u → wpAll P ops C Sh R S W0 dep kd Q rest (i + 1) (a.put o.dst v) (m.app i u)
theorem wpAllK_lex {Lq : Act → Made → Prop} (hsel : Region.noSelect ops = true) (hSh : ∀ i, ∃ v lo hi, Sh i v lo hi) (hk : ∀ i d, kd i = .write d → d ∈ dep i)
    (hdep : ∀ j oj, ops[j]? = some oj → ∀ d ∈ dep j, ∃ e ∈ oj.after, Region.binds md e = true ∧ e.on = d) :
    ∀ (l : List Oper) (k : Nat) (listed : Array Bool) (a : Act) (m : Made), (∀ j, l[j]? = ops[k + j]?) → Region.lexFrom md ops l.length k listed = true → wpAll P ops C Sh R S W0 dep kd Lq l k a m → wpAllK P md ops C Sh R S W0 dep kd Lq l.length listed a m
  | [], k, listed, a, m, _, hB, h => ⟨by simpa [Region.lexFrom] using hB, h⟩
  | o :: l, k, listed, a, m, hl, hB, h => by
    have h0 : ops[k]? = some o := by simpa using (hl 0).symm
    simp only [List.length_cons, Region.lexFrom, Bool.and_eq_true] at hB
    obtain ⟨⟨hr, hf⟩, hB'⟩ := hB
    have hst : aOp P ops C Sh R S W0 dep kd k (wpAll P ops C Sh R S W0 dep kd Lq l (k + 1)) a m := by unfold aOp; simp only [h0]; exact h
    refine wpAllK_first h0 (Region.noSelect_spec hsel) hSh hk hdep l.length listed a m (Region.free_spec h0 hf) (by simpa using hr) (aOp_mono (fun a' m' h' => ?_) hst)
    exact wpAllK_lex hsel hSh hk hdep l (k + 1) _ a' m' (fun j => by have := hl (j + 1); simpa [Nat.add_assoc, Nat.add_comm 1 j] using this) hB' h'
/-- What is known of what has been made and written, in a world. -/
structure MadeAll (R : Nat → Value → Nat → Nat → World → Prop) (S : Nat → Prop) (W0 : World) (N : Nat) (kd : Nat → Kd) (m : Made) (w : World) : Prop where
  one : ∀ i v lo hi, m i = some (v, lo, hi) → R i v lo hi w ∧ hi ≤ w.heap.size
  two : ∀ i j v lo hi u lo' hi', (kd i = .make ∨ kd i = .change) → (kd j = .make ∨ kd j = .change) → i ≠ j → m i = some (v, lo, hi) → m j = some (u, lo', hi') → hi ≤ lo' ∨ hi' ≤ lo
  tgt : ∀ i d v lo hi, kd i = .write d → m i = some (v, lo, hi) → ∃ u, m d = some (u, lo, hi)
  non : ∀ i, (kd i = .plain ∨ kd i = .look) → m i = none
  low : ∀ i v lo hi, m i = some (v, lo, hi) → N ≤ lo
  old : (∀ i, kd i = .change → m i = none) → ∀ b, S b → w.heap[b]? = W0.heap[b]?
theorem wp_of_wrote {o : Oper} {a : Act} {w : World} {Good : World → Prop} {K : Act → World → Prop} {Q : Exit → Act → World → Prop} (h : Oper.wroteUpon Good ((execOp a.eval o).run P w)) (hK : ∀ w', Good w' → K (a.put o.dst undef) w') : o.wp P a w K Q := by
  unfold Oper.wp
  generalize (execOp a.eval o).run P w = r at *
  cases r with
  | ok n w' =>
    cases n <;> simp only [Oper.wroteUpon] at h <;> simp only [Oper.upon]
    · obtain ⟨rfl, h⟩ := h; exact hK _ h
    · exact hK _ h
  | halt x w' => simp only [Oper.wroteUpon] at h
/-- An operation waits for another one, by way of others perhaps. -/
def behindB (md : Region.Mode) (ops : Array Oper) : Nat → Nat → Nat → Bool
  | 0, _, _ => false
  | f + 1, k, i => match ops[k]? with
    | none => false
    | some o => o.after.any fun e => Region.binds md e && (e.on == i || behindB md ops f e.on i)
def Closed (md : Region.Mode) (ops : Array Oper) (listed : Array Bool) : Prop := ∀ j oj, ops[j]? = some oj → listed.getD j false = true → ∀ e ∈ oj.after, Region.binds md e = true → listed.getD e.on false = true
theorem Closed.behind {listed : Array Bool} (h : Closed md ops listed) : ∀ (f k i : Nat), behindB md ops f k i = true → listed.getD k false = true → listed.getD i false = true
  | 0, k, i, hb, _ => by simp [behindB] at hb
  | f + 1, k, i, hb, hk => by
    unfold behindB at hb
    split at hb
    · cases hb
    · rename_i o ho
      obtain ⟨e, he, hb⟩ := Array.any_eq_true'.1 hb
      simp only [Bool.and_eq_true, Bool.or_eq_true, beq_iff_eq] at hb
      have h9 := h k o ho hk e he hb.1
      rcases hb.2 with hb | hb
      · rw [← hb]; exact h9
      · exact Closed.behind h f _ _ hb h9
theorem closed0 (n : Nat) : Closed md ops (Array.replicate n false) := fun j oj hj hl => by
  exfalso
  rw [Array.getD_eq_getD_getElem?] at hl
  by_cases h : j < n
  · rw [Array.getElem?_replicate, if_pos h] at hl; cases hl
  · rw [Array.getElem?_replicate, if_neg h] at hl; cases hl
theorem Closed.step {listed : Array Bool} (h : Closed md ops listed) {i : Nat} (hi : i ∈ Region.ready md ops listed) : Closed md ops (listed.setIfInBounds i true) := by
  intro j oj hj hl e he hb
  by_cases e1 : j = i
  · subst e1
    obtain ⟨_, o, ho, hall⟩ := mem_ready.1 hi
    obtain rfl : o = oj := Option.some.inj (ho.symm.trans hj)
    exact getD_set_true (hall e he hb)
  · rw [getD_set_ne false (Ne.symm e1)] at hl
    exact getD_set_true (h j oj hj hl e he hb)
theorem wpAny_of_allK {L : Act → Made → Prop} {Q' : Exit → Act → World → Prop} (hkm : ∀ i d, kd i = .write d → kd d = .make ∧ d ∈ dep i) (hku : ∀ i j d, kd i = .write d → kd j = .write d → i = j) (hkc : ∀ i j, kd i = .change → kd j = .change → i = j) (hkl : ∀ i k, kd i = .look → kd k = .change → behindB md ops ops.size k i = true)
    (hSN : ∀ b, S b → b < N) (hCN : ∀ w, C w → N ≤ w.heap.size)
    (hR : ∀ i v lo hi w w', R i v lo hi w → hi ≤ w.heap.size → ChgS (fun b => ¬ (lo ≤ b ∧ b < hi) ∧ ¬ (kd i = .change ∧ S b)) w w' → R i v lo hi w')
    (hL : ∀ a m w, L a m → C w → MadeAll R S W0 N kd m w → Q' .normal a w) :
    ∀ (f : Nat) (listed : Array Bool) (a : Act) (m : Made) (w : World), Closed md ops listed → listed.size = ops.size → C w → MadeAll R S W0 N kd m w → (∀ i, m i ≠ none → listed.getD i false = true) → wpAllK P md ops C Sh R S W0 dep kd L f listed a m → wpAny P md ops Q' f listed a w
  | 0, listed, a, m, w, _, _, hw, hm, _, h => ⟨h.1, hL _ _ _ h.2 hw hm⟩
  | f + 1, listed, a, m, w, hcl, hls, hw, hm, hlm, h => by
    refine ⟨fun h0 => absurd h0 h.1, fun i hi => ?_⟩
    have h1 := h.2 i hi
    have hun := (mem_ready.1 hi).1
    have hnone : m i = none := by
      cases e : m i with
      | none => rfl
      | some x => have := hlm i (by rw [e]; simp); rw [getD_both hun] at this; cases this
    have hio : i < ops.size := by obtain ⟨_, o, ho, _⟩ := mem_ready.1 hi; exact (Array.getElem?_eq_some_iff.1 ho).1
    have hlm' : ∀ k, m k ≠ none → (listed.setIfInBounds i true).getD k false = true := fun k hk => getD_set_true (hlm k hk)
    have hlu : ∀ x k, (m.upd i x) k ≠ none → (listed.setIfInBounds i true).getD k false = true := fun x k hk => by
      by_cases e : k = i
      · subst e
        have : k < listed.size := by rw [hls]; exact hio
        simp [this]
      · rw [Made.upd_ne _ e] at hk; exact hlm' k hk
    unfold aOp at h1
    unfold wpOp
    split
    · rename_i ho; simp only [ho] at h1
      exact wpAny_of_allK hkm hku hkc hkl hSN hCN hR hL f _ _ _ _ (hcl.step hi) (by simpa using hls) hw hm hlm' h1
    · rename_i o ho
      simp only [ho] at h1
      obtain ⟨hob, hK⟩ := h1
      unfold Obl at hob
      unfold Outs at hK
      split
      · rename_i hwt
        simp only [hwt, if_true] at hob hK
        refine .inl ?_
        have hdp : Deps R dep i m w := fun d _ v lo hi hd => hm.one d v lo hi hd
        -- a step that makes (or changes what is in S)
        have key : ∀ (v : Value) (w' : World), (kd i = .make ∨ kd i = .change) → C w' → ChgS (fun b => kd i = .change ∧ S b) w w' → R i v w.heap.size w'.heap.size w' →
            MadeAll R S W0 N kd (m.upd i (v, w.heap.size, w'.heap.size)) w' := fun v w' ki c1 c2 c3 => by
          have kw : ∀ k d, kd k = .write d → k ≠ i := fun k d ek e9 => by subst e9; rcases ki with h | h <;> (rw [ek] at h; cases h)
          have kp : ∀ k, (kd k = .plain ∨ kd k = .look) → k ≠ i := fun k ek e9 => by subst e9; rcases ki with h | h <;> (rcases ek with ek | ek <;> (rw [ek] at h; cases h))
          refine ⟨fun k u lo hi hk => ?_, fun k l u lo hi u' lo' hi' ek el hkl hk hl => ?_, fun k d u lo hi ek hk => ?_, fun k ek => ?_, fun k u lo hi hk => ?_, fun hn b hb => ?_⟩
          · by_cases e : k = i
            · subst e; rw [Made.upd_same] at hk
              simp only [Option.some.injEq, Prod.mk.injEq] at hk
              obtain ⟨rfl, rfl, rfl⟩ := hk
              exact ⟨c3, Nat.le_refl _⟩
            · rw [Made.upd_ne _ e] at hk
              obtain ⟨r1, r2⟩ := hm.one k u lo hi hk
              have hlo := hm.low k u lo hi hk
              exact ⟨hR _ _ _ _ _ _ r1 r2 (c2.mono fun b hb => ⟨fun h9 => by have := hSN b hb.2; omega, fun h9 => e (hkc k i h9.1 hb.1)⟩), Nat.le_trans r2 c2.size⟩
          · by_cases e : k = i
            · subst e; rw [Made.upd_same] at hk
              rw [Made.upd_ne _ (Ne.symm hkl)] at hl
              simp only [Option.some.injEq, Prod.mk.injEq] at hk
              obtain ⟨rfl, rfl, rfl⟩ := hk
              exact .inr (hm.one l _ _ _ hl).2
            · rw [Made.upd_ne _ e] at hk
              by_cases e2 : l = i
              · subst e2; rw [Made.upd_same] at hl
                simp only [Option.some.injEq, Prod.mk.injEq] at hl
                obtain ⟨rfl, rfl, rfl⟩ := hl
                exact .inl (hm.one k _ _ _ hk).2
              · rw [Made.upd_ne _ e2] at hl
                exact hm.two k l _ _ _ _ _ _ ek el hkl hk hl
          · have e1 := kw k d ek
            rw [Made.upd_ne _ e1] at hk
            obtain ⟨u', hu'⟩ := hm.tgt k d u lo hi ek hk
            have e2 : d ≠ i := fun e9 => by subst e9; rw [hnone] at hu'; cases hu'
            exact ⟨u', (Made.upd_ne m e2 _).trans hu'⟩
          · exact (Made.upd_ne m (kp k ek) _).trans (hm.non k ek)
          · by_cases e : k = i
            · subst e; rw [Made.upd_same] at hk
              simp only [Option.some.injEq, Prod.mk.injEq] at hk
              obtain ⟨rfl, rfl, rfl⟩ := hk
              exact hCN w hw
            · rw [Made.upd_ne _ e] at hk
              exact hm.low k u lo hi hk
          · have kni : kd i ≠ .change := fun h9 => by have := hn i h9; rw [Made.upd_same] at this; cases this
            have hn' : ∀ k, kd k = .change → m k = none := fun k hk => by
              have e1 : k ≠ i := fun e9 => by subst e9; exact kni hk
              exact (Made.upd_ne m e1 _).symm.trans (hn k hk)
            rw [c2.block b (Nat.lt_of_lt_of_le (hSN b hb) (hCN w hw)) (fun h9 => kni h9.1)]
            exact hm.old hn' b hb
        cases e : kd i with
        | plain =>
          simp only [e] at hob hK
          obtain ⟨v, hv⟩ := hob
          exact wp_of_plain (hv w hw) (wpAny_of_allK hkm hku hkc hkl hSN hCN hR hL f _ _ _ _ (hcl.step hi) (by simpa using hls) hw hm hlm' (hK v none ⟨rfl, hv⟩))
        | make =>
          simp only [e] at hob hK
          refine wp_of_made (hob w hw hdp) fun v w' ⟨c1, c2, c4, c3⟩ => ?_
          exact wpAny_of_allK hkm hku hkc hkl hSN hCN hR hL f _ _ _ w' (hcl.step hi) (by simpa using hls) c1 (key v w' (.inl e) c1 (ChgS.of_below c2 _) c3) (hlu _) (hK v _ ⟨w.heap.size, w'.heap.size, rfl, c4⟩)
        | change =>
          simp only [e] at hob hK
          have hold := hm.old fun k hk => by rw [hkc k i hk e]; exact hnone
          refine wp_of_made (hob w hw hdp hold) fun v w' ⟨c1, c2, c4, c3⟩ => ?_
          exact wpAny_of_allK hkm hku hkc hkl hSN hCN hR hL f _ _ _ w' (hcl.step hi) (by simpa using hls) c1 (key _ w' (.inr e) c1 (c2.mono fun b hb => ⟨e, hb⟩) c3) (hlu _) (hK v _ ⟨w.heap.size, w'.heap.size, rfl, c4⟩)
        | look =>
          simp only [e] at hob hK
          obtain ⟨v, hv⟩ := hob
          have hold := hm.old fun k hk => by
            cases e9 : m k with
            | none => rfl
            | some x =>
              have h8 := hcl.behind _ _ _ (hkl i k e hk) (hlm k (by rw [e9]; simp))
              rw [getD_both hun] at h8; cases h8
          exact wp_of_plain (hv w hw hold) (wpAny_of_allK hkm hku hkc hkl hSN hCN hR hL f _ _ _ _ (hcl.step hi) (by simpa using hls) hw hm hlm' (hK v none ⟨rfl, hv⟩))
        | write d =>
          simp only [e] at hob hK
          obtain ⟨⟨x, lo0, hi0, hmd⟩, hwr⟩ := hob
          obtain ⟨hdm, -⟩ := hkm i d e
          have hdi : d ≠ i := fun e9 => by subst e9; rw [hdm] at e; cases e
          have hlo0 := hm.low d x lo0 hi0 hmd
          refine wp_of_wrote (hwr w hw hdp x lo0 hi0 hmd) fun w' ⟨c1, c2, c3, c4, c5⟩ => ?_
          refine wpAny_of_allK hkm hku hkc hkl hSN hCN hR hL f _ _ _ w' (hcl.step hi) (by simpa using hls) c1 ⟨fun k u lo hi hk => ?_, fun k l u lo hi u' lo' hi' ek el hkl hk hl => ?_, fun k d' u lo hi ek hk => ?_, fun k ek => ?_, fun k u lo hi hk => ?_, fun hn b hb => ?_⟩ (hlu _) (hK undef _ ⟨rfl, x, lo0, hi0, hmd, rfl⟩)
          · by_cases e1 : k = i
            · subst e1
              have hk2 := (Made.upd_same m k (o.stored a, lo0, hi0)).symm.trans hk
              simp only [Option.some.injEq, Prod.mk.injEq] at hk2
              obtain ⟨rfl, rfl, rfl⟩ := hk2
              exact ⟨c5, by rw [c3]; exact (hm.one d _ _ _ hmd).2⟩
            · replace hk := (Made.upd_ne m e1 _).symm.trans hk
              obtain ⟨r1, r2⟩ := hm.one k u lo hi hk
              by_cases e2 : k = d
              · subst e2
                rw [hmd] at hk
                simp only [Option.some.injEq, Prod.mk.injEq] at hk
                obtain ⟨rfl, rfl, rfl⟩ := hk
                exact ⟨c4, by rw [c3]; exact r2⟩
              · have hdj : hi ≤ lo0 ∨ hi0 ≤ lo := by
                  cases ek : kd k with
                  | plain => rw [hm.non k (.inl ek)] at hk; cases hk
                  | look => rw [hm.non k (.inr ek)] at hk; cases hk
                  | make => exact hm.two k d _ _ _ _ _ _ (.inl ek) (.inl hdm) e2 hk hmd
                  | change => exact hm.two k d _ _ _ _ _ _ (.inr ek) (.inl hdm) e2 hk hmd
                  | write d2 =>
                    obtain ⟨u2, hu2⟩ := hm.tgt k d2 u lo hi ek hk
                    have hne : d2 ≠ d := fun e9 => by subst e9; exact e1 (hku k i d2 ek e)
                    exact hm.two d2 d _ _ _ _ _ _ (.inl (hkm k d2 ek).1) (.inl hdm) hne hu2 hmd
                exact ⟨hR _ _ _ _ _ _ r1 r2 (c2.mono fun b hb => ⟨fun h9 => by omega, fun h9 => by have := hSN b h9.2; omega⟩), by rw [c3]; exact r2⟩
          · have e1 : k ≠ i := fun e9 => by subst e9; rcases ek with ek | ek <;> (rw [e] at ek; cases ek)
            have e2 : l ≠ i := fun e9 => by subst e9; rcases el with el | el <;> (rw [e] at el; cases el)
            exact hm.two k l _ _ _ _ _ _ ek el hkl ((Made.upd_ne m e1 _).symm.trans hk) ((Made.upd_ne m e2 _).symm.trans hl)
          · by_cases e1 : k = i
            · subst e1
              have hk2 := (Made.upd_same m k (o.stored a, lo0, hi0)).symm.trans hk
              simp only [Option.some.injEq, Prod.mk.injEq] at hk2
              obtain ⟨rfl, rfl, rfl⟩ := hk2
              rw [e] at ek
              obtain rfl : d = d' := by injection ek
              exact ⟨x, (Made.upd_ne m hdi _).trans hmd⟩
            · obtain ⟨u', hu'⟩ := hm.tgt k d' u lo hi ek ((Made.upd_ne m e1 _).symm.trans hk)
              have e2 : d' ≠ i := fun e9 => by subst e9; rw [hnone] at hu'; cases hu'
              exact ⟨u', (Made.upd_ne m e2 _).trans hu'⟩
          · have e1 : k ≠ i := fun e9 => by subst e9; rcases ek with ek | ek <;> (rw [e] at ek; cases ek)
            exact (Made.upd_ne m e1 _).trans (hm.non k ek)
          · by_cases e1 : k = i
            · subst e1
              have hk2 := (Made.upd_same m k (o.stored a, lo0, hi0)).symm.trans hk
              simp only [Option.some.injEq, Prod.mk.injEq] at hk2
              obtain ⟨rfl, rfl, rfl⟩ := hk2
              exact hlo0
            · exact hm.low k u lo hi ((Made.upd_ne m e1 _).symm.trans hk)
          · have hn' : ∀ k, kd k = .change → m k = none := fun k hk => by
              have e1 : k ≠ i := fun e9 => by subst e9; rw [e] at hk; cases hk
              exact (Made.upd_ne m e1 _).symm.trans (hn k hk)
            rw [c2.block b (Nat.lt_of_lt_of_le (hSN b hb) (hCN w hw)) (fun h9 => by have := hSN b hb; omega)]
            exact hm.old hn' b hb
      · rename_i hwt
        simp only [hwt] at hK
        exact wpAny_of_allK hkm hku hkc hkl hSN hCN hR hL f _ _ _ _ (hcl.step hi) (by simpa using hls) hw hm hlm' (hK undef none ⟨rfl, rfl⟩)
/-- The targets of the stores: makers on which the stores lean, each its own. -/
def kdB (ops : Array Oper) (dep : Nat → List Nat) (kd : Nat → Kd) : Bool := (List.range ops.size).all fun i => match kd i with
  | .write d => decide (kd d = .make) && (dep i).contains d && (List.range ops.size).all fun j => decide (kd j = .write d → i = j)
  | .change => (List.range ops.size).all fun j => decide (kd j = .change → i = j)
  | .look => (List.range ops.size).all fun k => !decide (kd k = .change) || behindB .any ops ops.size k i
  | _ => true
/-- **A region that draws its order, walked once.** -/
theorem wp_region_all {id : Nat} {Q : Exit → Act → World → Prop} {a : Act} {w : World} {l : List Oper} (C : World → Prop) (Sh : Nat → Value → Nat → Nat → Prop) (R : Nat → Value → Nat → Nat → World → Prop) (S : Nat → Prop) (dep : Nat → List Nat) (kd : Nat → Kd)
    (hm : P.follows .mixedOrders = true) (hB : Region.lexB .any l.toArray = true)
    (hdep : ((List.range l.length).all fun j => (dep j).all fun d => Region.waitsFor .any l.toArray j d) = true) (hkd : kdB l.toArray dep kd = true) (hdn : ∀ j, l.length ≤ j → kd j = .plain)
    (hSh : ∀ i, ∃ v lo hi, Sh i v lo hi) (hSN : ∀ b, S b → b < w.heap.size) (hCN : ∀ w', C w' → w.heap.size ≤ w'.heap.size)
    (hR : ∀ i v lo hi w w', R i v lo hi w → hi ≤ w.heap.size → ChgS (fun b => ¬ (lo ≤ b ∧ b < hi) ∧ ¬ (kd i = .change ∧ S b)) w w' → R i v lo hi w')
    (hC : C { w with drawn := w.drawn + 1 })
    (h : wpAll P l.toArray C Sh R S w dep kd (fun a' m' => ∀ w', C w' → MadeAll R S w w.heap.size kd m' w' → Q .normal a' w') l 0 a Made.none) : (Code.region id l.toArray true).wp P Q a w := by
  simp only [Region.lexB, Bool.and_eq_true] at hB
  obtain ⟨hsel, hlex⟩ := hB
  have hkp : ∀ i, kd i ≠ .plain → i < l.length := fun i e => by
    rcases Nat.lt_or_ge i l.length with h | h
    · exact h
    · exact absurd (hdn i h) e
  have hrl : ∀ i, i < l.length → i ∈ List.range l.toArray.size := fun i h => List.mem_range.2 (by simpa using h)
  have hkm : ∀ i d, kd i = .write d → kd d = .make ∧ d ∈ dep i := fun i d e => by
    have h9 := List.all_eq_true.1 hkd i (hrl _ (hkp i (by rw [e]; simp)))
    simp only [e, Bool.and_eq_true, decide_eq_true_eq, List.contains_iff_mem] at h9
    exact h9.1
  have hku : ∀ i j d, kd i = .write d → kd j = .write d → i = j := fun i j d e e2 => by
    have h9 := List.all_eq_true.1 hkd i (hrl _ (hkp i (by rw [e]; simp)))
    simp only [e, Bool.and_eq_true] at h9
    have h8 := List.all_eq_true.1 h9.2 j (hrl _ (hkp j (by rw [e2]; simp)))
    exact (of_decide_eq_true h8) e2
  have hkc : ∀ i j, kd i = .change → kd j = .change → i = j := fun i j e e2 => by
    have h9 := List.all_eq_true.1 hkd i (hrl _ (hkp i (by rw [e]; simp)))
    simp only [e] at h9
    have h8 := List.all_eq_true.1 h9 j (hrl _ (hkp j (by rw [e2]; simp)))
    exact (of_decide_eq_true h8) e2
  have hkl : ∀ i k, kd i = .look → kd k = .change → behindB .any l.toArray l.toArray.size k i = true := fun i k e e2 => by
    have h9 := List.all_eq_true.1 hkd i (hrl _ (hkp i (by rw [e]; simp)))
    simp only [e] at h9
    have h8 := List.all_eq_true.1 h9 k (hrl _ (hkp k (by rw [e2]; simp)))
    simp only [e2, decide_true, Bool.not_true, Bool.false_or] at h8
    exact h8
  have hdep' : ∀ j oj, l.toArray[j]? = some oj → ∀ d ∈ dep j, ∃ e ∈ oj.after, Region.binds .any e = true ∧ e.on = d := fun j oj hoj d hd => by
    have hjl : j < l.length := by have := (Array.getElem?_eq_some_iff.1 hoj).1; simpa using this
    have h9 := List.all_eq_true.1 (List.all_eq_true.1 hdep j (List.mem_range.2 hjl)) d hd
    obtain ⟨oj', ho', e, he, hb, hon⟩ := Region.waitsFor_spec h9
    have : oj' = oj := Option.some.inj (ho'.symm.trans hoj)
    subst this
    exact ⟨e, he, hb, hon⟩
  refine wp_region_any hm ?_
  have H := wpAllK_lex (md := .any) hsel hSh (fun i d e => (hkm i d e).2) hdep' l 0 (Array.replicate l.toArray.size false) a Made.none (by simp) (by simpa using hlex) h
  have H2 := wpAny_of_allK (Q' := Q) (L := fun a' m' => ∀ w', C w' → MadeAll R S w w.heap.size kd m' w' → Q .normal a' w') hkm hku hkc hkl hSN hCN hR (fun a m w hL hw hmm => hL w hw hmm) _ _ _ _ _ (closed0 _) (by simp) hC ⟨fun i v lo hi h => (by cases h), fun i j v lo hi u lo' hi' _ _ _ h => (by cases h), fun i d v lo hi _ h => (by cases h), fun i _ => rfl, fun i v lo hi h => (by cases h), fun _ b _ => rfl⟩ (fun i h => absurd rfl h) H
  simpa using H2
end
end Go
/- A region that draws its order, walked once: its steps; what is known of a box, of a call's answer, of a store. Of any program. -/
namespace Go
open Go.RowKit Go.Own
/-- What is known of what an operation makes: its shape; its memory, which lies in blocks from lo on, below hi, and stays as long as these do. -/
structure Rel where
  sh : Value → Nat → Nat → Prop
  r : Value → Nat → Nat → World → Prop
  ex : ∃ v lo hi, sh v lo hi
  keep : ∀ v lo hi w w', r v lo hi w → hi ≤ w.heap.size → ChgS (fun b => ¬ (lo ≤ b ∧ b < hi)) w w' → r v lo hi w'
def Rel.none : Rel := ⟨fun _ _ _ => True, fun _ _ _ _ => True, ⟨undef, 0, 0, trivial⟩, fun _ _ _ _ _ h _ _ => h⟩
/-- A known value. -/
def Rel.val (u : Value) : Rel := ⟨fun v _ _ => v = u, fun _ _ _ _ => True, ⟨u, 0, 0, rfl⟩, fun _ _ _ _ _ h _ _ => h⟩
/-- A box of n cells, from block N on. -/
def Rel.box (N n : Nat) : Rel := ⟨fun v lo hi => v = .pointer (some ⟨lo, 0, .none⟩) ∧ hi = lo + 1, fun _ lo hi w => N ≤ lo ∧ hi = lo + 1 ∧ ∃ cs : List Value, cs.length = n ∧ BoxF w lo cs, ⟨_, 0, 1, rfl, rfl⟩, fun v lo hi w w' ⟨h1, h2, cs, h3, h4⟩ hs hC => ⟨h1, h2, cs, h3, h4.chg hC (fun h => h ⟨Nat.le_refl _, by omega⟩)⟩⟩
/-- A struct laid into a box. -/
def Rel.wrote : Rel := ⟨fun _ _ _ => True, fun x lo hi w => hi = lo + 1 ∧ ∀ cs : Array Value, x = .agg cs → BoxF w lo cs.toList, ⟨undef, 0, 0, trivial⟩, fun v lo hi w w' ⟨h2, h4⟩ hs hC => ⟨h2, fun cs e => (h4 cs e).chg hC (fun h => h ⟨Nat.le_refl _, by omega⟩)⟩⟩
/-- A value laid into a box of one cell. -/
def Rel.wrote1 : Rel := ⟨fun _ _ _ => True, fun x lo hi w => hi = lo + 1 ∧ BoxF w lo [x], ⟨undef, 0, 0, trivial⟩, fun v lo hi w w' ⟨h2, h4⟩ hs hC => ⟨h2, h4.chg hC (fun h => h ⟨Nat.le_refl _, by omega⟩)⟩⟩
/-- What a call answers: of some form, with memory of its own, from block N on. -/
def Rel.own (N : Nat) (sh : Value → Prop) (G : (Nat → Prop) → World → Value → Prop) (hex : ∃ v, sh v) (hG : ∀ S w w' v, G S w v → (∀ k, S k → w'.heap[k]? = w.heap[k]?) → G S w' v) : Rel :=
  ⟨fun v _ _ => sh v, fun v lo hi w => N ≤ lo ∧ ∃ S : Nat → Prop, (∀ k, S k → lo ≤ k ∧ k < hi) ∧ G S w v, (by obtain ⟨v, h⟩ := hex; exact ⟨v, 0, 0, h⟩), fun v lo hi w w' ⟨hN, S, h1, h2⟩ hs hC => ⟨hN, S, h1, hG S w w' v h2 fun k hk => hC.block k (Nat.lt_of_lt_of_le (h1 k hk).2 hs) (fun h => h (h1 k hk))⟩⟩
/-- A class of worlds come out of W: it holds W, what grows on, what is laid into new boxes. -/
structure Cls (W : World) (C : World → Prop) : Prop where
  here : C W
  grow : ∀ w w', C w → Below w.heap.size w w' → C w'
  set : ∀ w w' lo, C w → W.heap.size ≤ lo → ChgS (fun b => b = lo) w w' → C w'
  size : ∀ w, C w → W.heap.size ≤ w.heap.size
theorem clsExt (W : World) : Cls W (fun w' => ∃ e : Ext W, w' = e.w) :=
  ⟨⟨Ext.here W, rfl⟩, fun w w' ⟨E, hE⟩ hb => by subst hE; exact E.ex hb, fun w w' lo ⟨E, hE⟩ hlo hC => by subst hE; exact ⟨⟨w', below_chg E.h hC E.size fun k hk => by subst hk; exact hlo⟩, rfl⟩, fun w ⟨E, hE⟩ => by subst hE; exact E.size⟩
/-- A world come out of W, in which blocks of S may have been written. -/
structure ExtS (S : Nat → Prop) (W : World) where
  w : World
  h : ChgS S W w
instance (S : Nat → Prop) (W : World) : Nonempty (ExtS S W) := ⟨⟨W, ChgS.refl S W⟩⟩
/-- In which the blocks of S are as they were. -/
structure ExtO (S : Nat → Prop) (W : World) where
  w : World
  h : ChgS S W w
  old : ∀ b, S b → w.heap[b]? = W.heap[b]?
instance (S : Nat → Prop) (W : World) : Nonempty (ExtO S W) := ⟨⟨W, ChgS.refl S W, fun _ _ => rfl⟩⟩
theorem ExtO.cell {S : Nat → Prop} {W : World} {b o : Nat} {v : Value} (hb : b < W.heap.size) (h : W.cell? ⟨b, o, .none⟩ = some v) : ∀ e : ExtO S W, e.w.cell? ⟨b, o, .none⟩ = some v := fun e => by
  by_cases hs : S b
  · exact (cell_same (e.old b hs)).trans h
  · exact (cell_chg e.h hb hs).trans h
theorem ExtS.size {S : Nat → Prop} {W : World} (e : ExtS S W) : W.heap.size ≤ e.w.heap.size := e.h.size
theorem ExtS.cell {S : Nat → Prop} {W : World} {b o : Nat} {v : Value} (hb : b < W.heap.size) (hs : ¬ S b) (h : W.cell? ⟨b, o, .none⟩ = some v) : ∀ e : ExtS S W, e.w.cell? ⟨b, o, .none⟩ = some v := fun e => (cell_chg e.h hb hs).trans h
theorem clsExtS (S : Nat → Prop) (W : World) (hS : ∀ b, S b → b < W.heap.size) : Cls W (fun w' => ∃ e : ExtS S W, w' = e.w) :=
  ⟨⟨⟨W, ChgS.refl S W⟩, rfl⟩, fun w w' ⟨E, hE⟩ hb => by subst hE; exact ⟨⟨w', E.h.trans (ChgS.of_below hb S)⟩, rfl⟩, fun w w' lo ⟨E, hE⟩ hlo hC => by
    subst hE
    refine ⟨⟨w', ?_⟩, rfl⟩
    refine ⟨hC.os.trans E.h.os, hC.tape.trans E.h.tape, hC.output.trans E.h.output, Nat.le_trans E.h.size hC.size, fun k hk hs => ?_⟩
    exact (hC.block k (Nat.lt_of_lt_of_le hk E.h.size) (fun e => by subst e; omega)).trans (E.h.block k hk hs), fun w ⟨E, hE⟩ => by subst hE; exact E.size⟩
section
variable {P : Program} {ops : Array Oper} {W : World} {C : World → Prop} {Sh : Nat → Value → Nat → Nat → Prop} {R : Nat → Value → Nat → Nat → World → Prop} {S : Nat → Prop} {dep : Nat → List Nat} {kd : Nat → Kd} {Q : Act → Made → Prop} {o : Oper} {rest : List Oper} {i : Nat} {a : Act} {m : Made}
theorem wpR_plain (cl : Cls W C) (hw : Region.wanted o (yielded ops a.tmps) = true) (hk : kd i = .plain) (h : ∀ K : Act → Prop, (∀ a', wpAll P ops C Sh R S W dep kd Q rest (i + 1) a' m → K a') → ∃ v, (∀ w, C w → o.plainAt P a w v) ∧ K (a.put o.dst v)) : wpAll P ops C Sh R S W dep kd Q (o :: rest) i a m := by
  obtain ⟨v, h1, h2⟩ := h _ fun _ h => h
  refine ⟨?_, fun v' u hv' => ?_⟩
  · unfold Obl; rw [if_pos hw, hk]; exact ⟨v, h1⟩
  · unfold Outs at hv'
    rw [if_pos hw, hk] at hv'
    obtain ⟨rfl, h3⟩ := hv'
    obtain rfl : v' = v := plain_unique (h3 W cl.here) (h1 W cl.here)
    exact h2
theorem wpR_skip (hw : Region.wanted o (yielded ops a.tmps) = false) (h : wpAll P ops C Sh R S W dep kd Q rest (i + 1) (a.put o.dst undef) m) : wpAll P ops C Sh R S W dep kd Q (o :: rest) i a m := by
  have hw' : ¬ Region.wanted o (yielded ops a.tmps) = true := by rw [hw]; exact Bool.false_ne_true
  refine ⟨?_, fun v' u hv' => ?_⟩
  · unfold Obl; rw [if_neg hw']; trivial
  · unfold Outs at hv'
    rw [if_neg hw'] at hv'
    obtain ⟨rfl, rfl⟩ := hv'
    exact h
theorem wpR_make (cl : Cls W C) (hw : Region.wanted o (yielded ops a.tmps) = true) (hk : kd i = .make)
    (h1 : ∀ w, C w → Deps R dep i m w → Oper.madeUpon P (fun v w' => Below w.heap.size w w' ∧ Sh i v w.heap.size w'.heap.size ∧ R i v w.heap.size w'.heap.size w') ((execOp a.eval o).run P w))
    (h2 : ∀ v lo hi, Sh i v lo hi → wpAll P ops C Sh R S W dep kd Q rest (i + 1) (a.put o.dst v) (m.upd i (v, lo, hi))) : wpAll P ops C Sh R S W dep kd Q (o :: rest) i a m := by
  refine ⟨?_, fun v' u hv' => ?_⟩
  · unfold Obl; rw [if_pos hw, hk]
    intro w hC hd
    have h9 := h1 w hC hd
    generalize (execOp a.eval o).run P w = r at h9 ⊢
    cases r with
    | ok n w' =>
      cases n <;> simp only [Oper.madeUpon] at h9 ⊢
      · exact ⟨cl.grow _ _ hC h9.1, h9⟩
      · exact ⟨cl.grow _ _ hC h9.1, h9⟩
      · exact h9.mono fun e w'' ⟨v, he, hg⟩ => ⟨v, he, cl.grow _ _ hC hg.1, hg⟩
    | halt x w' => simp only [Oper.madeUpon] at h9
  · unfold Outs at hv'
    rw [if_pos hw, hk] at hv'
    obtain ⟨lo, hi, rfl, hs⟩ := hv'
    exact h2 v' lo hi hs
/-- A call that answers what it makes. -/
theorem wpR_call (cl : Cls W C) (f : FuncId) (args : Array Value) (r : Rel) (hw : Region.wanted o (yielded ops a.tmps) = true) (hk : kd i = .make) (hsh : Sh i = r.sh) (hrr : R i = r.r) (hr : ∀ w, (execOp a.eval o).run P w = .ok (.enter f args) w)
    (h1 : ∀ w, C w → Deps R dep i m w → Calls P f args w fun e w'' => ∃ v, e = .returned v ∧ Below w.heap.size w w'' ∧ r.sh v w.heap.size w''.heap.size ∧ r.r v w.heap.size w''.heap.size w'')
    (h2 : ∀ v lo hi, r.sh v lo hi → wpAll P ops C Sh R S W dep kd Q rest (i + 1) (a.put o.dst v) (m.upd i (v, lo, hi))) : wpAll P ops C Sh R S W dep kd Q (o :: rest) i a m :=
  wpR_make cl hw hk (fun w hC hd => by rw [hr, hsh, hrr]; exact h1 w hC hd) (fun v lo hi hs => h2 v lo hi (by rw [hsh] at hs; exact hs))
/-- A call that writes into what was there (S). -/
theorem wpR_change (f : FuncId) (args : Array Value) (hcl : ∀ w w', C w → ChgS S w w' → C w') (sh : Value → Nat → Nat → Prop) (r : Value → Nat → Nat → World → Prop) (hw : Region.wanted o (yielded ops a.tmps) = true) (hk : kd i = .change) (hsh : Sh i = sh) (hrr : R i = r) (hr : ∀ w, (execOp a.eval o).run P w = .ok (.enter f args) w)
    (h1 : ∀ w, C w → Deps R dep i m w → (∀ b, S b → w.heap[b]? = W.heap[b]?) → Calls P f args w fun e w'' => ∃ v, e = .returned v ∧ ChgS S w w'' ∧ sh v w.heap.size w''.heap.size ∧ r v w.heap.size w''.heap.size w'')
    (h2 : ∀ v lo hi, sh v lo hi → wpAll P ops C Sh R S W dep kd Q rest (i + 1) (a.put o.dst v) (m.upd i (v, lo, hi))) (ht : ∀ v, o.told a v = v := by intro v; rfl) : wpAll P ops C Sh R S W dep kd Q (o :: rest) i a m := by
  refine ⟨?_, fun v' u hv' => ?_⟩
  · unfold Obl; rw [if_pos hw, hk]
    intro w hC hd hS
    rw [hr, hsh, hrr]
    exact (h1 w hC hd hS).mono fun e w'' ⟨v, he, hg⟩ => ⟨v, he, hcl _ _ hC hg.1, hg.1, hg.2.1, by rw [ht]; exact hg.2.2⟩
  · unfold Outs at hv'
    rw [if_pos hw, hk] at hv'
    obtain ⟨lo, hi, rfl, hs⟩ := hv'
    rw [ht]
    exact h2 v' lo hi (by rw [hsh] at hs; exact hs)
/-- A box. -/
theorem wpR_box (cl : Cls W C) (n : Nat) (cs : Array Value) (ty : TypeId) (hw : Region.wanted o (yielded ops a.tmps) = true) (hk : kd i = .make) (hsh : Sh i = (Rel.box W.heap.size n).sh) (hrr : R i = (Rel.box W.heap.size n).r) (hn : cs.size = n)
    (hr : ∀ w, (execOp a.eval o).run P w = .ok (.value (.pointer (some ⟨w.heap.size, 0, none⟩))) (w.alloc (.cells cs ty)))
    (h2 : ∀ lo, wpAll P ops C Sh R S W dep kd Q rest (i + 1) (a.put o.dst (.pointer (some ⟨lo, 0, none⟩))) (m.upd i (.pointer (some ⟨lo, 0, none⟩), lo, lo + 1))) : wpAll P ops C Sh R S W dep kd Q (o :: rest) i a m := by
  refine wpR_make cl hw hk (fun w hC hd => ?_) (fun v lo hi hs => ?_)
  · rw [hr]
    have hb : Below w.heap.size w (w.alloc (.cells cs ty)) := (Below.refl _ _).alloc (Nat.le_refl _) _
    refine ⟨hb, ?_, ?_⟩
    · rw [hsh]; exact ⟨rfl, by simp⟩
    · rw [hrr]; exact ⟨cl.size w hC, by simp, cs.toList, by simpa using hn, BoxF.alloc w cs ty⟩
  · rw [hsh] at hs
    obtain ⟨rfl, rfl⟩ := hs
    exact h2 lo
/-- A store into a box. -/
theorem wpR_store (cl : Cls W C) (d n lo : Nat) (p x : Value) (cs : List Value) (hw : Region.wanted o (yielded ops a.tmps) = true) (hk : kd i = .write d) (hd : R d = (Rel.box W.heap.size n).r) (hdep : d ∈ dep i) (hm : m d = some (p, lo, lo + 1)) (hst : o.stored a = x)
    (hri : ∀ w, BoxF w lo cs → R i x lo (lo + 1) w)
    (hr : ∀ w cs0, cs0.length = n → BoxF w lo cs0 → ∃ w', (execOp a.eval o).run P w = .ok .skip w' ∧ BoxF w' lo cs ∧ ChgS (fun b => b = lo) w w' ∧ w'.heap.size = w.heap.size) (hcs : cs.length = n)
    (h2 : wpAll P ops C Sh R S W dep kd Q rest (i + 1) (a.put o.dst undef) (m.upd i (x, lo, lo + 1))) : wpAll P ops C Sh R S W dep kd Q (o :: rest) i a m := by
  refine ⟨?_, fun v' u hv' => ?_⟩
  · unfold Obl; rw [if_pos hw, hk]
    refine ⟨⟨_, _, _, hm⟩, ?_⟩
    intro w hC hE v lo' hi' hmd
    rw [hm] at hmd
    simp only [Option.some.injEq, Prod.mk.injEq] at hmd
    obtain ⟨rfl, rfl, rfl⟩ := hmd
    have h9 := (hE d hdep _ _ _ hm).1
    rw [hd] at h9
    obtain ⟨h9a, -, cs0, h9b, h9c⟩ := h9
    obtain ⟨w', hrun, hB, hCg, hsz⟩ := hr w cs0 h9b h9c
    rw [hrun]
    refine ⟨cl.set _ _ _ hC h9a hCg, hCg.mono fun b hb => by omega, hsz, ?_, ?_⟩
    · rw [hd]; exact ⟨h9a, rfl, cs, hcs, hB⟩
    · rw [hst]; exact hri w' hB
  · unfold Outs at hv'
    rw [if_pos hw, hk] at hv'
    obtain ⟨rfl, y, lo', hi', hmd, rfl⟩ := hv'
    rw [hm] at hmd
    simp only [Option.some.injEq, Prod.mk.injEq] at hmd
    obtain ⟨rfl, rfl, rfl⟩ := hmd
    rw [hst]
    exact h2
/-- What stands in S is read ahead of its change. -/
theorem wpR_look (hw : Region.wanted o (yielded ops a.tmps) = true) (hk : kd i = .look) (h : ∀ K : Act → Prop, (∀ a', wpAll P ops (fun w' => ∃ e : ExtS S W, w' = e.w) Sh R S W dep kd Q rest (i + 1) a' m → K a') → ∃ v, (∀ w, (∃ e : ExtO S W, w = e.w) → o.plainAt P a w v) ∧ K (a.put o.dst v)) : wpAll P ops (fun w' => ∃ e : ExtS S W, w' = e.w) Sh R S W dep kd Q (o :: rest) i a m := by
  obtain ⟨v, h1, h2⟩ := h _ fun _ h => h
  refine ⟨?_, fun v' u hv' => ?_⟩
  · unfold Obl; rw [if_pos hw, hk]; exact ⟨v, fun w ⟨e, he⟩ ho => h1 w ⟨⟨e.w, e.h, fun b hb => by rw [← he]; exact ho b hb⟩, he⟩⟩
  · unfold Outs at hv'
    rw [if_pos hw, hk] at hv'
    obtain ⟨rfl, h3⟩ := hv'
    obtain rfl : v' = v := plain_unique (h3 W ⟨⟨W, ChgS.refl S W⟩, rfl⟩ fun _ _ => rfl) (h1 W ⟨⟨W, ChgS.refl S W, fun _ _ => rfl⟩, rfl⟩)
    exact h2
/-- A store into S. -/
theorem wpR_put (x : Value) (r : Value → Nat → Nat → World → Prop) (hcl : ∀ w w', C w → ChgS S w w' → C w') (hw : Region.wanted o (yielded ops a.tmps) = true) (hk : kd i = .change) (hsh : Sh i = (Rel.val undef).sh) (hrr : R i = r) (ht : ∀ v, o.told a v = x)
    (hr : ∀ w, C w → (∀ b, S b → w.heap[b]? = W.heap[b]?) → ∃ w', (execOp a.eval o).run P w = .ok .skip w' ∧ ChgS S w w' ∧ r x w.heap.size w'.heap.size w')
    (h2 : ∀ lo hi, wpAll P ops C Sh R S W dep kd Q rest (i + 1) (a.put o.dst undef) (m.upd i (x, lo, hi))) : wpAll P ops C Sh R S W dep kd Q (o :: rest) i a m := by
  refine ⟨?_, fun v' u hv' => ?_⟩
  · unfold Obl; rw [if_pos hw, hk]
    intro w hC hd hS
    obtain ⟨w', h1, h3, h4⟩ := hr w hC hS
    rw [h1, hsh, hrr]
    exact ⟨hcl _ _ hC h3, h3, rfl, by rw [ht]; exact h4⟩
  · unfold Outs at hv'
    rw [if_pos hw, hk] at hv'
    obtain ⟨lo, hi, rfl, hs⟩ := hv'
    rw [hsh] at hs
    obtain rfl : v' = undef := hs
    rw [ht]
    exact h2 lo hi
theorem wpR_nil (h : Q a m) : wpAll P ops C Sh R S W dep kd Q [] i a m := h
theorem wpAll_mono {W0 : World} {Q1 Q2 : Act → Made → Prop} (hQ : ∀ a m, Q1 a m → Q2 a m) : ∀ (l' : List Oper) (i : Nat) (a : Act) (m : Made), wpAll P ops C Sh R S W0 dep kd Q1 l' i a m → wpAll P ops C Sh R S W0 dep kd Q2 l' i a m
  | [], i, a, m, h => hQ _ _ h
  | o :: l', i, a, m, h => ⟨h.1, fun v u hv => wpAll_mono hQ l' _ _ _ (h.2 v u hv)⟩
/-- By lists, an entry an operation: what is known of it, on which it leans, what it is. -/
def relL (l : List Rel) (i : Nat) : Rel := (l[i]?).getD Rel.none
def depL (l : List (List Nat)) (i : Nat) : List Nat := (l[i]?).getD []
def kdL (l : List Kd) (i : Nat) : Kd := (l[i]?).getD .plain
theorem kdL_out {l : List Kd} {n : Nat} (hl : Nat.ble l.length n = true) : ∀ j, n ≤ j → kdL l j = .plain := fun j hj => by
  have h9 : l.length ≤ j := Nat.le_trans (Nat.le_of_ble_eq_true hl) hj
  unfold kdL
  rw [List.getElem?_eq_none h9]
  rfl
theorem wp_region_rel {id : Nat} {Q : Exit → Act → World → Prop} {a : Act} {w : World} {l : List Oper} (rels : List Rel) (deps : List (List Nat)) (kds : List Kd)
    (hm : P.follows .mixedOrders = true) (hB : Region.lexB .any l.toArray = true)
    (hdep : ((List.range l.length).all fun j => (depL deps j).all fun d => Region.waitsFor .any l.toArray j d) = true) (hkd : kdB l.toArray (depL deps) (kdL kds) = true) (hl : Nat.ble kds.length l.length = true)
    (h : wpAll P l.toArray (fun w' => ∃ e : Ext w, w' = e.w) (fun i => (relL rels i).sh) (fun i => (relL rels i).r) (fun _ => False) w (depL deps) (kdL kds) (fun a' m' => ∀ E : Ext w, MadeAll (fun i => (relL rels i).r) (fun _ => False) w w.heap.size (kdL kds) m' E.w → Q .normal a' E.w) l 0 a Made.none) : (Code.region id l.toArray true).wp P Q a w :=
  wp_region_all (fun w' => ∃ e : Ext w, w' = e.w) (fun i => (relL rels i).sh) (fun i => (relL rels i).r) (fun _ => False) (depL deps) (kdL kds) hm hB hdep hkd (kdL_out hl) (fun i => (relL rels i).ex) (fun _ h => h.elim) (clsExt w).size
    (fun i v lo hi w w' hr hs hC => (relL rels i).keep v lo hi w w' hr hs (hC.mono fun b hb => hb.1)) ⟨⟨_, (Below.refl _ _).drew⟩, rfl⟩
    (wpAll_mono (fun a m h w' ⟨E, hE⟩ hmm => by subst hE; exact h E hmm) _ _ _ _ h)
/-- What is known: of the operation that writes into S by itself. -/
def relC (rels : List Rel) (kds : List Kd) (RC : Value → Nat → Nat → World → Prop) (i : Nat) : Value → Nat → Nat → World → Prop := match kdL kds i with
  | .change => RC
  | _ => (relL rels i).r
theorem wp_region_chg {id : Nat} {Q : Exit → Act → World → Prop} {a : Act} {w : World} {l : List Oper} (S : Nat → Prop) (RC : Value → Nat → Nat → World → Prop) (rels : List Rel) (deps : List (List Nat)) (kds : List Kd)
    (hm : P.follows .mixedOrders = true) (hB : Region.lexB .any l.toArray = true)
    (hdep : ((List.range l.length).all fun j => (depL deps j).all fun d => Region.waitsFor .any l.toArray j d) = true) (hkd : kdB l.toArray (depL deps) (kdL kds) = true) (hl : Nat.ble kds.length l.length = true)
    (hS : ∀ b, S b → b < w.heap.size) (hRC : ∀ v lo hi w w', RC v lo hi w → hi ≤ w.heap.size → ChgS (fun b => ¬ (lo ≤ b ∧ b < hi) ∧ ¬ S b) w w' → RC v lo hi w')
    (h : wpAll P l.toArray (fun w' => ∃ e : ExtS S w, w' = e.w) (fun i => (relL rels i).sh) (relC rels kds RC) S w (depL deps) (kdL kds) (fun a' m' => ∀ E : ExtS S w, MadeAll (relC rels kds RC) S w w.heap.size (kdL kds) m' E.w → Q .normal a' E.w) l 0 a Made.none) : (Code.region id l.toArray true).wp P Q a w :=
  wp_region_all (fun w' => ∃ e : ExtS S w, w' = e.w) (fun i => (relL rels i).sh) (relC rels kds RC) S (depL deps) (kdL kds) hm hB hdep hkd (kdL_out hl) (fun i => (relL rels i).ex) hS (clsExtS S w hS).size
    (fun i v lo hi w w' hr hs hC => by
      unfold relC at hr ⊢
      cases e : kdL kds i with
      | change => simp only [e] at hr ⊢; exact hRC v lo hi w w' hr hs (hC.mono fun b hb => ⟨hb.1, fun h9 => hb.2 ⟨e, h9⟩⟩)
      | plain => simp only [e] at hr ⊢; exact (relL rels i).keep v lo hi w w' hr hs (hC.mono fun b hb => hb.1)
      | look => simp only [e] at hr ⊢; exact (relL rels i).keep v lo hi w w' hr hs (hC.mono fun b hb => hb.1)
      | make => simp only [e] at hr ⊢; exact (relL rels i).keep v lo hi w w' hr hs (hC.mono fun b hb => hb.1)
      | write d => simp only [e] at hr ⊢; exact (relL rels i).keep v lo hi w w' hr hs (hC.mono fun b hb => hb.1)) ⟨(⟨{ w with drawn := w.drawn + 1 }, ⟨rfl, rfl, rfl, Nat.le_refl _, fun _ _ _ => rfl⟩⟩ : ExtS S w), rfl⟩
    (wpAll_mono (fun a m h w' ⟨E, hE⟩ hmm => by subst hE; exact h E hmm) _ _ _ _ h)
theorem wrote_r {w : World} {lo : Nat} {cs : List Value} (h : BoxF w lo cs) : Rel.wrote.r (.agg cs.toArray) lo (lo + 1) w := ⟨rfl, fun cs' e => by
  have e2 : cs.toArray = cs' := by simpa using e
  subst e2
  exact h⟩
theorem wrote1_r {w : World} {lo : Nat} {x : Value} (h : BoxF w lo [x]) : Rel.wrote1.r x lo (lo + 1) w := ⟨rfl, h⟩
end
end Go
namespace Go.Own
open Go.RowKit
/-- A struct's cells laid into a box. -/
theorem boxset1 {w : World} {lo : Nat} {cs0 : List Value} (hn : cs0.length = 1) (h : BoxF w lo cs0) (a : Value) : BoxF (w.setCell ⟨lo, 0, none⟩ a) lo [a] ∧ ChgS (fun b => b = lo) w (w.setCell ⟨lo, 0, none⟩ a) ∧ (w.setCell ⟨lo, 0, none⟩ a).heap.size = w.heap.size := by
  match cs0, hn with
  | [x], _ => exact ⟨h.set 0 (by simp) a, (ChgS.refl (fun k => k = lo) w).set _ _ rfl, by simp [World.setCell]⟩
theorem boxset2 {w : World} {lo : Nat} {cs0 : List Value} (hn : cs0.length = 2) (h : BoxF w lo cs0) (a b : Value) : BoxF ((w.setCell ⟨lo, 0, none⟩ a).setCell ⟨lo, 1, none⟩ b) lo [a, b] ∧ ChgS (fun k => k = lo) w ((w.setCell ⟨lo, 0, none⟩ a).setCell ⟨lo, 1, none⟩ b) ∧ ((w.setCell ⟨lo, 0, none⟩ a).setCell ⟨lo, 1, none⟩ b).heap.size = w.heap.size := by
  match cs0, hn with
  | [x, y], _ => exact ⟨(h.set 0 (by simp) a).set 1 (by simp) b, ((ChgS.refl (fun k => k = lo) w).set _ _ rfl).set _ _ rfl, by simp [World.setCell]⟩
theorem boxset3 {w : World} {lo : Nat} {cs0 : List Value} (hn : cs0.length = 3) (h : BoxF w lo cs0) (a b c : Value) : BoxF (((w.setCell ⟨lo, 0, none⟩ a).setCell ⟨lo, 1, none⟩ b).setCell ⟨lo, 2, none⟩ c) lo [a, b, c] ∧ ChgS (fun k => k = lo) w (((w.setCell ⟨lo, 0, none⟩ a).setCell ⟨lo, 1, none⟩ b).setCell ⟨lo, 2, none⟩ c) ∧ (((w.setCell ⟨lo, 0, none⟩ a).setCell ⟨lo, 1, none⟩ b).setCell ⟨lo, 2, none⟩ c).heap.size = w.heap.size := by
  match cs0, hn with
  | [x, y, z], _ => exact ⟨((h.set 0 (by simp) a).set 1 (by simp) b).set 2 (by simp) c, (((ChgS.refl (fun k => k = lo) w).set _ _ rfl).set _ _ rfl).set _ _ rfl, by simp [World.setCell]⟩
theorem box_any1 {w : World} {lo : Nat} {cs0 : List Value} (hn : cs0.length = 1) (h : BoxF w lo cs0) : ∃ a, w.cell? ⟨lo, 0, none⟩ = some a ∧ w.frozen? ⟨lo, 0, none⟩ = false := by
  match cs0, hn with
  | [x], _ => exact ⟨x, h.1.2 0 (by simp), h.2 0 (by simp)⟩
theorem box_any2 {w : World} {lo : Nat} {cs0 : List Value} (hn : cs0.length = 2) (h : BoxF w lo cs0) : ∃ a b, w.cell? ⟨lo, 0, none⟩ = some a ∧ w.cell? ⟨lo, 1, none⟩ = some b ∧ w.frozen? ⟨lo, 0, none⟩ = false ∧ w.frozen? ⟨lo, 1, none⟩ = false := by
  match cs0, hn with
  | [x, y], _ => exact ⟨x, y, h.1.2 0 (by simp), h.1.2 1 (by simp), h.2 0 (by simp), h.2 1 (by simp)⟩
theorem box_any3 {w : World} {lo : Nat} {cs0 : List Value} (hn : cs0.length = 3) (h : BoxF w lo cs0) : ∃ a b c, w.cell? ⟨lo, 0, none⟩ = some a ∧ w.cell? ⟨lo, 1, none⟩ = some b ∧ w.cell? ⟨lo, 2, none⟩ = some c ∧ w.frozen? ⟨lo, 0, none⟩ = false ∧ w.frozen? ⟨lo, 1, none⟩ = false ∧ w.frozen? ⟨lo, 2, none⟩ = false := by
  match cs0, hn with
  | [x, y, z], _ => exact ⟨x, y, z, h.1.2 0 (by simp), h.1.2 1 (by simp), h.1.2 2 (by simp), h.2 0 (by simp), h.2 1 (by simp), h.2 2 (by simp)⟩
end Go.Own
namespace Go.Own
open Go.RowKit
set_option linter.unusedVariables false
/-- 1 lists of the call's own, apart from each other, in a value of some form. -/
def G1 {α0 : Type} [A0 : Enc α0] (mk : Value → Value) (x0 : List α0) (S : Nat → Prop) (w : World) (v : Value) : Prop := ∃ (u0 : Value) (S0 : Nat → Prop), v = mk u0 ∧ ownL S0 w u0 x0 ∧ (∀ k, S0 k → S k)
theorem G1_keep {α0 : Type} [A0 : Enc α0] (mk : Value → Value) (x0 : List α0) (S : Nat → Prop) (w w' : World) (v : Value) (h : G1 mk x0 S w v) (hk : ∀ k, S k → w'.heap[k]? = w.heap[k]?) : G1 mk x0 S w' v := by
  obtain ⟨u0, S0, e, o0, s0⟩ := h
  exact ⟨u0, S0, e, o0.keep fun k h => hk k (s0 k h), s0⟩
def Rel.g1 {α0 : Type} [A0 : Enc α0] (N : Nat) (mk : Value → Value) (x0 : List α0) : Go.Rel := Go.Rel.own N (fun v => ∃ (a0 : Option Addr) (m0 c0 : Nat), v = mk (.slice a0 m0 c0)) (G1 mk x0) ⟨_, .none, 0, 0, rfl⟩ (fun S w w' v => G1_keep mk x0 S w w' v)
theorem Rel.g1_of {α0 : Type} [A0 : Enc α0] {N : Nat} {mk : Value → Value} {x0 : List α0} {w w' : World} {u0 : Value} {S0 : Nat → Prop} (hN : N ≤ w.heap.size) (o0 : ownL S0 w' u0 x0) (r0 : ∀ k, S0 k → Rg w.heap.size w'.heap.size k) : (Rel.g1 N mk x0).sh (mk u0) w.heap.size w'.heap.size ∧ (Rel.g1 N mk x0).r (mk u0) w.heap.size w'.heap.size w' := by
  obtain ⟨a0, m0, c0, rfl⟩ := ownL_shape o0
  refine ⟨⟨a0, m0, c0, rfl⟩, hN, fun k => S0 k, ?_, _, S0, rfl, o0, fun k h => h⟩
  intro k h
  exact r0 k h
/-- 2 lists of the call's own, apart from each other, in a value of some form. -/
def G2 {α0 : Type} [A0 : Enc α0] {α1 : Type} [A1 : Enc α1] (mk : Value → Value → Value) (x0 : List α0) (x1 : List α1) (S : Nat → Prop) (w : World) (v : Value) : Prop := ∃ (u0 u1 : Value) (S0 S1 : Nat → Prop), v = mk u0 u1 ∧ ownL S0 w u0 x0 ∧ ownL S1 w u1 x1 ∧ (∀ k, S0 k → S k) ∧ (∀ k, S1 k → S k) ∧ (∀ k, S0 k → ¬ S1 k)
theorem G2_keep {α0 : Type} [A0 : Enc α0] {α1 : Type} [A1 : Enc α1] (mk : Value → Value → Value) (x0 : List α0) (x1 : List α1) (S : Nat → Prop) (w w' : World) (v : Value) (h : G2 mk x0 x1 S w v) (hk : ∀ k, S k → w'.heap[k]? = w.heap[k]?) : G2 mk x0 x1 S w' v := by
  obtain ⟨u0, u1, S0, S1, e, o0, o1, s0, s1, d01⟩ := h
  exact ⟨u0, u1, S0, S1, e, o0.keep fun k h => hk k (s0 k h), o1.keep fun k h => hk k (s1 k h), s0, s1, d01⟩
def Rel.g2 {α0 : Type} [A0 : Enc α0] {α1 : Type} [A1 : Enc α1] (N : Nat) (mk : Value → Value → Value) (x0 : List α0) (x1 : List α1) : Go.Rel := Go.Rel.own N (fun v => ∃ (a0 : Option Addr) (m0 c0 : Nat) (a1 : Option Addr) (m1 c1 : Nat), v = mk (.slice a0 m0 c0) (.slice a1 m1 c1)) (G2 mk x0 x1) ⟨_, .none, 0, 0, .none, 0, 0, rfl⟩ (fun S w w' v => G2_keep mk x0 x1 S w w' v)
theorem Rel.g2_of {α0 : Type} [A0 : Enc α0] {α1 : Type} [A1 : Enc α1] {N : Nat} {mk : Value → Value → Value} {x0 : List α0} {x1 : List α1} {w w' : World} {u0 u1 : Value} {S0 S1 : Nat → Prop} (hN : N ≤ w.heap.size) (o0 : ownL S0 w' u0 x0) (o1 : ownL S1 w' u1 x1) (r0 : ∀ k, S0 k → Rg w.heap.size w'.heap.size k) (r1 : ∀ k, S1 k → Rg w.heap.size w'.heap.size k) (d01 : ∀ k, S0 k → ¬ S1 k) : (Rel.g2 N mk x0 x1).sh (mk u0 u1) w.heap.size w'.heap.size ∧ (Rel.g2 N mk x0 x1).r (mk u0 u1) w.heap.size w'.heap.size w' := by
  obtain ⟨a0, m0, c0, rfl⟩ := ownL_shape o0
  obtain ⟨a1, m1, c1, rfl⟩ := ownL_shape o1
  refine ⟨⟨a0, m0, c0, a1, m1, c1, rfl⟩, hN, fun k => S0 k ∨ S1 k, ?_, _, _, S0, S1, rfl, o0, o1, fun k h => .inl h, fun k h => .inr (h), d01⟩
  intro k h
  rcases h with h | h
  · exact r0 k h
  · exact r1 k h
/-- 3 lists of the call's own, apart from each other, in a value of some form. -/
def G3 {α0 : Type} [A0 : Enc α0] {α1 : Type} [A1 : Enc α1] {α2 : Type} [A2 : Enc α2] (mk : Value → Value → Value → Value) (x0 : List α0) (x1 : List α1) (x2 : List α2) (S : Nat → Prop) (w : World) (v : Value) : Prop := ∃ (u0 u1 u2 : Value) (S0 S1 S2 : Nat → Prop), v = mk u0 u1 u2 ∧ ownL S0 w u0 x0 ∧ ownL S1 w u1 x1 ∧ ownL S2 w u2 x2 ∧ (∀ k, S0 k → S k) ∧ (∀ k, S1 k → S k) ∧ (∀ k, S2 k → S k) ∧ (∀ k, S0 k → ¬ S1 k) ∧ (∀ k, S0 k → ¬ S2 k) ∧ (∀ k, S1 k → ¬ S2 k)
theorem G3_keep {α0 : Type} [A0 : Enc α0] {α1 : Type} [A1 : Enc α1] {α2 : Type} [A2 : Enc α2] (mk : Value → Value → Value → Value) (x0 : List α0) (x1 : List α1) (x2 : List α2) (S : Nat → Prop) (w w' : World) (v : Value) (h : G3 mk x0 x1 x2 S w v) (hk : ∀ k, S k → w'.heap[k]? = w.heap[k]?) : G3 mk x0 x1 x2 S w' v := by
  obtain ⟨u0, u1, u2, S0, S1, S2, e, o0, o1, o2, s0, s1, s2, d01, d02, d12⟩ := h
  exact ⟨u0, u1, u2, S0, S1, S2, e, o0.keep fun k h => hk k (s0 k h), o1.keep fun k h => hk k (s1 k h), o2.keep fun k h => hk k (s2 k h), s0, s1, s2, d01, d02, d12⟩
def Rel.g3 {α0 : Type} [A0 : Enc α0] {α1 : Type} [A1 : Enc α1] {α2 : Type} [A2 : Enc α2] (N : Nat) (mk : Value → Value → Value → Value) (x0 : List α0) (x1 : List α1) (x2 : List α2) : Go.Rel := Go.Rel.own N (fun v => ∃ (a0 : Option Addr) (m0 c0 : Nat) (a1 : Option Addr) (m1 c1 : Nat) (a2 : Option Addr) (m2 c2 : Nat), v = mk (.slice a0 m0 c0) (.slice a1 m1 c1) (.slice a2 m2 c2)) (G3 mk x0 x1 x2) ⟨_, .none, 0, 0, .none, 0, 0, .none, 0, 0, rfl⟩ (fun S w w' v => G3_keep mk x0 x1 x2 S w w' v)
theorem Rel.g3_of {α0 : Type} [A0 : Enc α0] {α1 : Type} [A1 : Enc α1] {α2 : Type} [A2 : Enc α2] {N : Nat} {mk : Value → Value → Value → Value} {x0 : List α0} {x1 : List α1} {x2 : List α2} {w w' : World} {u0 u1 u2 : Value} {S0 S1 S2 : Nat → Prop} (hN : N ≤ w.heap.size) (o0 : ownL S0 w' u0 x0) (o1 : ownL S1 w' u1 x1) (o2 : ownL S2 w' u2 x2) (r0 : ∀ k, S0 k → Rg w.heap.size w'.heap.size k) (r1 : ∀ k, S1 k → Rg w.heap.size w'.heap.size k) (r2 : ∀ k, S2 k → Rg w.heap.size w'.heap.size k) (d01 : ∀ k, S0 k → ¬ S1 k) (d02 : ∀ k, S0 k → ¬ S2 k) (d12 : ∀ k, S1 k → ¬ S2 k) : (Rel.g3 N mk x0 x1 x2).sh (mk u0 u1 u2) w.heap.size w'.heap.size ∧ (Rel.g3 N mk x0 x1 x2).r (mk u0 u1 u2) w.heap.size w'.heap.size w' := by
  obtain ⟨a0, m0, c0, rfl⟩ := ownL_shape o0
  obtain ⟨a1, m1, c1, rfl⟩ := ownL_shape o1
  obtain ⟨a2, m2, c2, rfl⟩ := ownL_shape o2
  refine ⟨⟨a0, m0, c0, a1, m1, c1, a2, m2, c2, rfl⟩, hN, fun k => S0 k ∨ S1 k ∨ S2 k, ?_, _, _, _, S0, S1, S2, rfl, o0, o1, o2, fun k h => .inl h, fun k h => .inr (.inl h), fun k h => .inr (.inr (h)), d01, d02, d12⟩
  intro k h
  rcases h with h | h | h
  · exact r0 k h
  · exact r1 k h
  · exact r2 k h
/-- 4 lists of the call's own, apart from each other, in a value of some form. -/
def G4 {α0 : Type} [A0 : Enc α0] {α1 : Type} [A1 : Enc α1] {α2 : Type} [A2 : Enc α2] {α3 : Type} [A3 : Enc α3] (mk : Value → Value → Value → Value → Value) (x0 : List α0) (x1 : List α1) (x2 : List α2) (x3 : List α3) (S : Nat → Prop) (w : World) (v : Value) : Prop := ∃ (u0 u1 u2 u3 : Value) (S0 S1 S2 S3 : Nat → Prop), v = mk u0 u1 u2 u3 ∧ ownL S0 w u0 x0 ∧ ownL S1 w u1 x1 ∧ ownL S2 w u2 x2 ∧ ownL S3 w u3 x3 ∧ (∀ k, S0 k → S k) ∧ (∀ k, S1 k → S k) ∧ (∀ k, S2 k → S k) ∧ (∀ k, S3 k → S k) ∧ (∀ k, S0 k → ¬ S1 k) ∧ (∀ k, S0 k → ¬ S2 k) ∧ (∀ k, S0 k → ¬ S3 k) ∧ (∀ k, S1 k → ¬ S2 k) ∧ (∀ k, S1 k → ¬ S3 k) ∧ (∀ k, S2 k → ¬ S3 k)
theorem G4_keep {α0 : Type} [A0 : Enc α0] {α1 : Type} [A1 : Enc α1] {α2 : Type} [A2 : Enc α2] {α3 : Type} [A3 : Enc α3] (mk : Value → Value → Value → Value → Value) (x0 : List α0) (x1 : List α1) (x2 : List α2) (x3 : List α3) (S : Nat → Prop) (w w' : World) (v : Value) (h : G4 mk x0 x1 x2 x3 S w v) (hk : ∀ k, S k → w'.heap[k]? = w.heap[k]?) : G4 mk x0 x1 x2 x3 S w' v := by
  obtain ⟨u0, u1, u2, u3, S0, S1, S2, S3, e, o0, o1, o2, o3, s0, s1, s2, s3, d01, d02, d03, d12, d13, d23⟩ := h
  exact ⟨u0, u1, u2, u3, S0, S1, S2, S3, e, o0.keep fun k h => hk k (s0 k h), o1.keep fun k h => hk k (s1 k h), o2.keep fun k h => hk k (s2 k h), o3.keep fun k h => hk k (s3 k h), s0, s1, s2, s3, d01, d02, d03, d12, d13, d23⟩
def Rel.g4 {α0 : Type} [A0 : Enc α0] {α1 : Type} [A1 : Enc α1] {α2 : Type} [A2 : Enc α2] {α3 : Type} [A3 : Enc α3] (N : Nat) (mk : Value → Value → Value → Value → Value) (x0 : List α0) (x1 : List α1) (x2 : List α2) (x3 : List α3) : Go.Rel := Go.Rel.own N (fun v => ∃ (a0 : Option Addr) (m0 c0 : Nat) (a1 : Option Addr) (m1 c1 : Nat) (a2 : Option Addr) (m2 c2 : Nat) (a3 : Option Addr) (m3 c3 : Nat), v = mk (.slice a0 m0 c0) (.slice a1 m1 c1) (.slice a2 m2 c2) (.slice a3 m3 c3)) (G4 mk x0 x1 x2 x3) ⟨_, .none, 0, 0, .none, 0, 0, .none, 0, 0, .none, 0, 0, rfl⟩ (fun S w w' v => G4_keep mk x0 x1 x2 x3 S w w' v)
theorem Rel.g4_of {α0 : Type} [A0 : Enc α0] {α1 : Type} [A1 : Enc α1] {α2 : Type} [A2 : Enc α2] {α3 : Type} [A3 : Enc α3] {N : Nat} {mk : Value → Value → Value → Value → Value} {x0 : List α0} {x1 : List α1} {x2 : List α2} {x3 : List α3} {w w' : World} {u0 u1 u2 u3 : Value} {S0 S1 S2 S3 : Nat → Prop} (hN : N ≤ w.heap.size) (o0 : ownL S0 w' u0 x0) (o1 : ownL S1 w' u1 x1) (o2 : ownL S2 w' u2 x2) (o3 : ownL S3 w' u3 x3) (r0 : ∀ k, S0 k → Rg w.heap.size w'.heap.size k) (r1 : ∀ k, S1 k → Rg w.heap.size w'.heap.size k) (r2 : ∀ k, S2 k → Rg w.heap.size w'.heap.size k) (r3 : ∀ k, S3 k → Rg w.heap.size w'.heap.size k) (d01 : ∀ k, S0 k → ¬ S1 k) (d02 : ∀ k, S0 k → ¬ S2 k) (d03 : ∀ k, S0 k → ¬ S3 k) (d12 : ∀ k, S1 k → ¬ S2 k) (d13 : ∀ k, S1 k → ¬ S3 k) (d23 : ∀ k, S2 k → ¬ S3 k) : (Rel.g4 N mk x0 x1 x2 x3).sh (mk u0 u1 u2 u3) w.heap.size w'.heap.size ∧ (Rel.g4 N mk x0 x1 x2 x3).r (mk u0 u1 u2 u3) w.heap.size w'.heap.size w' := by
  obtain ⟨a0, m0, c0, rfl⟩ := ownL_shape o0
  obtain ⟨a1, m1, c1, rfl⟩ := ownL_shape o1
  obtain ⟨a2, m2, c2, rfl⟩ := ownL_shape o2
  obtain ⟨a3, m3, c3, rfl⟩ := ownL_shape o3
  refine ⟨⟨a0, m0, c0, a1, m1, c1, a2, m2, c2, a3, m3, c3, rfl⟩, hN, fun k => S0 k ∨ S1 k ∨ S2 k ∨ S3 k, ?_, _, _, _, _, S0, S1, S2, S3, rfl, o0, o1, o2, o3, fun k h => .inl h, fun k h => .inr (.inl h), fun k h => .inr (.inr (.inl h)), fun k h => .inr (.inr (.inr (h))), d01, d02, d03, d12, d13, d23⟩
  intro k h
  rcases h with h | h | h | h
  · exact r0 k h
  · exact r1 k h
  · exact r2 k h
  · exact r3 k h
end Go.Own
