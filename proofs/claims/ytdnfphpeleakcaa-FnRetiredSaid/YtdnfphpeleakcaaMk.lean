/- A region that draws its order, in which calls and appends make memory: one walk of the text's order serves every order, where what each makes is said by a relation of its own. -/
import Derived.Test.YtdnfphpeleakcaaExt
import Derived.StillTail
namespace Go
set_option maxRecDepth 100000
open Go.RowKit
section
variable {P : Program} {ops : Array Oper} {md : Region.Mode} {C : World → Prop}

/-- What has been made: for an operation's place its value, and the heap's size ahead of it and behind. -/
def Made : Type := Nat → Option (Value × Nat × Nat)
def Made.none : Made := fun _ => Option.none
def Made.upd (m : Made) (i : Nat) (x : Value × Nat × Nat) : Made := fun k => if k = i then some x else m k
theorem Made.upd_comm (m : Made) {i j : Nat} (h : i ≠ j) (x y : Value × Nat × Nat) : (m.upd i x).upd j y = (m.upd j y).upd i x := by
  funext k
  simp only [Made.upd]
  by_cases h1 : k = i
  · subst h1; simp [h]
  · by_cases h2 : k = j
    · subst h2; simp [h1]
    · simp [h1, h2]
theorem Made.upd_same (m : Made) (i : Nat) (x : Value × Nat × Nat) : (m.upd i x) i = some x := by simp [Made.upd]
theorem Made.upd_ne (m : Made) {i k : Nat} (h : k ≠ i) (x : Value × Nat × Nat) : (m.upd i x) k = m k := by simp [Made.upd, h]

/-- What is known of what has been made, in a world. -/
structure MadeIn (R : Nat → Value → Nat → Nat → World → Prop) (m : Made) (w : World) : Prop where
  one : ∀ i v lo hi, m i = some (v, lo, hi) → R i v lo hi w ∧ hi ≤ w.heap.size
  two : ∀ i j v lo hi u lo' hi', i ≠ j → m i = some (v, lo, hi) → m j = some (u, lo', hi') → hi ≤ lo' ∨ hi' ≤ lo

def Oper.plainUpon (w : World) (v : Value) : Result Next → Prop
  | .ok (.value u) w' => w' = w ∧ u = v
  | .ok .skip w' => w' = w ∧ v = undef
  | _ => False
def Oper.plainAt (P : Program) (o : Oper) (a : Act) (w : World) (v : Value) : Prop := Oper.plainUpon w v ((execOp a.eval o).run P w)
def Oper.madeUpon (P : Program) (Good : Value → World → Prop) : Result Next → Prop
  | .ok (.value v) w' => Good v w'
  | .ok .skip w' => Good undef w'
  | .ok (.enter f args) w' => Calls P f args w' fun e w'' => ∃ v, e = .returned v ∧ Good v w''
  | _ => False
/-- What a maker makes, from each world of the class in which what it leans on is as it should be. -/
def Oper.makes (P : Program) (C : World → Prop) (R : Nat → Value → Nat → Nat → World → Prop) (dep : Nat → Option Nat) (i : Nat) (o : Oper) (a : Act) (m : Made) : Prop :=
  ∀ w, C w → (∀ d v lo hi, dep i = some d → m d = some (v, lo, hi) → R d v lo hi w ∧ hi ≤ w.heap.size) →
    Oper.madeUpon P (fun v w' => C w' ∧ Below w.heap.size w w' ∧ R i v w.heap.size w'.heap.size w') ((execOp a.eval o).run P w)

variable {R : Nat → Value → Nat → Nat → World → Prop} {dep : Nat → Option Nat} {mk : Nat → Bool}

def mOp (P : Program) (ops : Array Oper) (C : World → Prop) (R : Nat → Value → Nat → Nat → World → Prop) (dep : Nat → Option Nat) (mk : Nat → Bool) (i : Nat) (K : Act → Made → Prop) (a : Act) (m : Made) : Prop :=
  match ops[i]? with
  | none => K a m
  | some o => if Region.wanted o (yielded ops a.tmps) then
      (if mk i then o.makes P C R dep i a m ∧ ∀ v lo hi, K (a.put o.dst v) (m.upd i (v, lo, hi))
       else ∃ v, (∀ w, C w → o.plainAt P a w v) ∧ K (a.put o.dst v) m)
    else K (a.put o.dst undef) m

theorem mOp_mono {i : Nat} {a : Act} {m : Made} {K K' : Act → Made → Prop} (h : ∀ a m, K a m → K' a m) (hh : mOp P ops C R dep mk i K a m) : mOp P ops C R dep mk i K' a m := by
  unfold mOp at *
  split
  · exact h _ _ (by simpa [*] using hh)
  · rename_i o ho
    simp only [ho] at hh
    split
    · rename_i hw
      simp only [hw, if_true] at hh
      split
      · rename_i hk; simp only [hk, if_true] at hh; exact ⟨hh.1, fun v lo hi => h _ _ (hh.2 v lo hi)⟩
      · rename_i hk; simp only [hk] at hh; obtain ⟨v, h1, h2⟩ := hh; exact ⟨v, h1, h _ _ h2⟩
    · rename_i hw; simp only [hw] at hh; exact h _ _ hh

theorem plain_unique {o : Oper} {a : Act} {w : World} {v u : Value} (h1 : o.plainAt P a w v) (h2 : o.plainAt P a w u) : v = u := by
  unfold Oper.plainAt at h1 h2
  generalize (execOp a.eval o).run P w = r at h1 h2
  cases r with
  | ok n w' =>
    cases n <;> simp only [Oper.plainUpon] at h1 h2
    · exact h1.2.symm.trans h2.2
    · exact h1.2.trans h2.2.symm
  | halt x w' => simp only [Oper.plainUpon] at h1

theorem makes_put {o : Oper} {i : Nat} {a : Act} {m : Made} {d : Option Tmp} {v : Value} (hs : ∀ cs b, o.op ≠ .select cs b) (hd : ∀ t, d = some t → t ∉ o.looksAt ops) :
    o.makes P C R dep i (a.put d v) m ↔ o.makes P C R dep i a m := by
  unfold Oper.makes; rw [execOp_put o hs a d v hd]
theorem plain_put {o : Oper} {a : Act} {w : World} {d : Option Tmp} {v u : Value} (hs : ∀ cs b, o.op ≠ .select cs b) (hd : ∀ t, d = some t → t ∉ o.looksAt ops) :
    o.plainAt P (a.put d v) w u ↔ o.plainAt P a w u := by
  unfold Oper.plainAt; rw [execOp_put o hs a d v hd]
theorem makes_upd {o : Oper} {i j : Nat} {a : Act} {m : Made} {x : Value × Nat × Nat} (hd : dep i ≠ some j) : o.makes P C R dep i a (m.upd j x) ↔ o.makes P C R dep i a m := by
  unfold Oper.makes
  have e : ∀ w, (∀ d v lo hi, dep i = some d → (m.upd j x) d = some (v, lo, hi) → R d v lo hi w ∧ hi ≤ w.heap.size) ↔ (∀ d v lo hi, dep i = some d → m d = some (v, lo, hi) → R d v lo hi w ∧ hi ≤ w.heap.size) := fun w => by
    constructor
    · intro h d v lo hi h1 h2
      have hdj : d ≠ j := fun e => hd (e ▸ h1)
      exact h d v lo hi h1 (by rw [Made.upd_ne _ hdj]; exact h2)
    · intro h d v lo hi h1 h2
      have hdj : d ≠ j := fun e => hd (e ▸ h1)
      rw [Made.upd_ne _ hdj] at h2
      exact h d v lo hi h1 h2
  simp only [e]

/-- Two operations that are apart, and of which neither leans on the other, may be taken the other way round. -/
theorem mOp_swap {i j : Nat} {oi oj : Oper} {a : Act} {m : Made} {K : Act → Made → Prop} (hi : ops[i]? = some oi) (hj : ops[j]? = some oj) (hij : i ≠ j) (hap : oi.apart ops oj = true)
    (hsi : ∀ cs b, oi.op ≠ .select cs b) (hsj : ∀ cs b, oj.op ≠ .select cs b) (hdi : dep i ≠ some j) (hdj : dep j ≠ some i) (hC : ∃ w, C w)
    (h : mOp P ops C R dep mk i (fun a' m' => mOp P ops C R dep mk j K a' m') a m) : mOp P ops C R dep mk j (fun a' m' => mOp P ops C R dep mk i K a' m') a m := by
  obtain ⟨w0, hw0⟩ := hC
  obtain ⟨h1, h2, h3⟩ := Oper.apart_spec hap
  have pc : ∀ v u, (a.put oi.dst v).put oj.dst u = (a.put oj.dst u).put oi.dst v := fun v u => Act.put_comm a v u h2
  unfold mOp at h ⊢
  simp only [hi, hj] at h ⊢
  simp only [wanted_put oj a oi.dst _ h1] at h
  simp only [wanted_put oi a oj.dst _ h3]
  by_cases wi : Region.wanted oi (yielded ops a.tmps) = true
  · simp only [wi, if_true] at h ⊢
    by_cases wj : Region.wanted oj (yielded ops a.tmps) = true
    · simp only [wj, if_true] at h ⊢
      by_cases mi : mk i = true
      · simp only [mi, if_true] at h ⊢
        by_cases mj : mk j = true
        · simp only [mj, if_true] at h ⊢
          refine ⟨(makes_put hsj h1).1 ((makes_upd hdj).1 (h.2 undef 0 0).1), fun u lo hi => ⟨(makes_put hsi h3).2 ((makes_upd hdi).2 h.1), fun v lo' hi' => ?_⟩⟩
          rw [← pc, ← Made.upd_comm _ hij]; exact (h.2 v lo' hi').2 u lo hi
        · simp only [mj] at h ⊢
          obtain ⟨u, hu, _⟩ := h.2 undef 0 0
          refine ⟨u, fun w hw => (plain_put hsj h1).1 (hu w hw), (makes_put hsi h3).2 h.1, fun v lo hi => ?_⟩
          obtain ⟨u', hu', hK⟩ := h.2 v lo hi
          have : u' = u := plain_unique ((plain_put hsj h1).1 (hu' w0 hw0)) ((plain_put hsj h1).1 (hu w0 hw0))
          rw [← pc, ← this]; exact hK
      · simp only [mi] at h ⊢
        obtain ⟨v, hv, hr⟩ := h
        by_cases mj : mk j = true
        · simp only [mj, if_true] at hr ⊢
          refine ⟨(makes_put hsj h1).1 hr.1, fun u lo hi => ⟨v, fun w hw => (plain_put hsi h3).2 (hv w hw), ?_⟩⟩
          rw [← pc]; exact hr.2 u lo hi
        · simp only [mj] at hr ⊢
          obtain ⟨u, hu, hK⟩ := hr
          refine ⟨u, fun w hw => (plain_put hsj h1).1 (hu w hw), v, fun w hw => (plain_put hsi h3).2 (hv w hw), ?_⟩
          rw [← pc]; exact hK
    · simp only [wj] at h ⊢
      by_cases mi : mk i = true
      · simp only [mi, if_true] at h ⊢
        refine ⟨(makes_put hsi h3).2 h.1, fun v lo hi => ?_⟩
        rw [← pc]; exact h.2 v lo hi
      · simp only [mi] at h ⊢
        obtain ⟨v, hv, hK⟩ := h
        refine ⟨v, fun w hw => (plain_put hsi h3).2 (hv w hw), ?_⟩
        rw [← pc]; exact hK
  · simp only [wi] at h ⊢
    by_cases wj : Region.wanted oj (yielded ops a.tmps) = true
    · simp only [wj, if_true] at h ⊢
      by_cases mj : mk j = true
      · simp only [mj, if_true] at h ⊢
        refine ⟨(makes_put hsj h1).1 h.1, fun u lo hi => ?_⟩
        have := h.2 u lo hi
        rw [pc] at this; exact this
      · simp only [mj] at h ⊢
        obtain ⟨u, hu, hK⟩ := h
        refine ⟨u, fun w hw => (plain_put hsj h1).1 (hu w hw), ?_⟩
        rw [pc] at hK; exact hK
    · simp only [wj] at h ⊢
      have : K ((a.put oi.dst undef).put oj.dst undef) m := h
      rw [pc] at this; exact this

/-- Whatever order is picked from here on, as far as the heads go. -/
def wpAnyK (P : Program) (md : Region.Mode) (ops : Array Oper) (C : World → Prop) (R : Nat → Value → Nat → Nat → World → Prop) (dep : Nat → Option Nat) (mk : Nat → Bool) (n : Nat) (L : Array Bool → Act → Made → Prop) : Nat → Array Bool → Act → Made → Prop
  | 0, listed, a, m => L listed a m
  | f + 1, listed, a, m =>
    Region.ready md ops listed ≠ [] ∧ ∀ i ∈ Region.ready md ops listed, i < n ∧ mOp P ops C R dep mk i (wpAnyK P md ops C R dep mk n L f (listed.setIfInBounds i true)) a m

theorem wpAnyK_first {n i : Nat} {oi : Oper} {L : Array Bool → Act → Made → Prop} (hi : ops[i]? = some oi) (hsel : ∀ (j : Nat) (o : Oper) cs b, ops[j]? = some o → o.op ≠ .select cs b)
    (hs : Region.sinkB md ops n = true) (hc : Region.chainB md ops n = true) (hn : n < ops.size) (hin : i < n) (hC : ∃ w, C w)
    (hdep : ∀ j d oj, dep j = some d → ops[j]? = some oj → ∃ e ∈ oj.after, Region.binds md e = true ∧ e.on = d)
    (hdone : ∀ listed a m, L listed a m → ∀ j ∈ Region.ready md ops listed, n ≤ j) :
    ∀ (f : Nat) (listed : Array Bool) (a : Act) (m : Made), HeadInv md ops n listed →
      (∀ j oj, ops[j]? = some oj → j ≠ i → listed.getD j true = false → (∀ e ∈ oj.after, Region.binds md e = true → e.on ≠ i) → oi.apart ops oj = true) →
      i ∈ Region.ready md ops listed →
      mOp P ops C R dep mk i (wpAnyK P md ops C R dep mk n L f (listed.setIfInBounds i true)) a m → wpAnyK P md ops C R dep mk n L (f + 1) listed a m := by
  intro f
  induction f with
  | zero =>
    intro listed a m inv hfree hr H
    have hun := (mem_ready.1 hr).1
    refine ⟨fun h => (by rw [h] at hr; cases hr), fun j hj => ?_⟩
    have hjn : j < n := by
      rcases Nat.lt_or_ge j n with h | h
      · exact h
      · exact absurd hj (tail_waits hs hc hn inv _ i rfl hin hun j h)
    refine ⟨hjn, ?_⟩
    by_cases hji : j = i
    · subst hji; exact H
    · exfalso
      -- some outcome of i leads to L, which says that nothing below n is ready
      have hL : ∃ a' m', L (listed.setIfInBounds i true) a' m' := by
        unfold mOp at H
        simp only [hi] at H
        split at H
        · split at H
          · exact ⟨_, _, H.2 undef 0 0⟩
          · obtain ⟨v, _, h2⟩ := H; exact ⟨_, _, h2⟩
        · exact ⟨_, _, H⟩
      obtain ⟨a', m', hL⟩ := hL
      have := hdone _ _ _ hL j (ready_mono hj hji)
      omega
  | succ f ih =>
    intro listed a m inv hfree hr H
    have hun := (mem_ready.1 hr).1
    obtain ⟨_, oi', hoi', halli⟩ := mem_ready.1 hr
    have : oi' = oi := Option.some.inj (hoi'.symm.trans hi)
    subst this
    refine ⟨fun h => (by rw [h] at hr; cases hr), fun j hj => ?_⟩
    have hjn : j < n := by
      rcases Nat.lt_or_ge j n with h | h
      · exact h
      · exact absurd hj (tail_waits hs hc hn inv _ i rfl hin hun j h)
    refine ⟨hjn, ?_⟩
    by_cases hji : j = i
    · subst hji; exact H
    · obtain ⟨hjun, oj, hoj, hall⟩ := mem_ready.1 hj
      have hnot : ∀ e ∈ oj.after, Region.binds md e = true → e.on ≠ i := fun e he hb heq => by
        have h1 := hall e he hb
        rw [heq, getD_both hun] at h1
        cases h1
      have hnoti : ∀ e ∈ oi'.after, Region.binds md e = true → e.on ≠ j := fun e he hb heq => by
        have h1 := halli e he hb
        rw [heq, getD_both hjun] at h1
        cases h1
      have hdi : dep i ≠ some j := fun e => by
        obtain ⟨x, hx, hb, ho⟩ := hdep i j oi' e hi
        exact hnoti x hx hb ho
      have hdj : dep j ≠ some i := fun e => by
        obtain ⟨x, hx, hb, ho⟩ := hdep j i oj e hoj
        exact hnot x hx hb ho
      have hfree' : ∀ k ok, ops[k]? = some ok → k ≠ i → (listed.setIfInBounds j true).getD k true = false →
          (∀ e ∈ ok.after, Region.binds md e = true → e.on ≠ i) → oi'.apart ops ok = true := fun k ok hk hki hu hno => by
        refine hfree k ok hk hki ?_ hno
        by_cases hjk : j = k
        · subst hjk; exact hjun
        · rw [getD_set_ne true hjk] at hu; exact hu
      have H2 : mOp P ops C R dep mk i (fun a' m' => mOp P ops C R dep mk j (wpAnyK P md ops C R dep mk n L f ((listed.setIfInBounds i true).setIfInBounds j true)) a' m') a m :=
        mOp_mono (fun a' m' h => (h.2 j (ready_mono hj hji)).2) H
      have H3 := mOp_swap hi hoj (Ne.symm hji) (hfree j oj hoj hji hjun hnot) (fun cs b => hsel i oi' cs b hi) (fun cs b => hsel j oj cs b hoj) hdi hdj hC H2
      refine mOp_mono (fun a' m' h => ih (listed.setIfInBounds j true) a' m' (inv.set hj hjn) hfree' (ready_mono hr (Ne.symm hji)) ?_) H3
      rw [Array.setIfInBounds_comm _ _ hji]
      exact h

/-- The walk of the heads in the order of the text. -/
def wpMk (P : Program) (ops : Array Oper) (C : World → Prop) (R : Nat → Value → Nat → Nat → World → Prop) (dep : Nat → Option Nat) (mk : Nat → Bool) (Q : Act → Made → Prop) : List Oper → Nat → Act → Made → Prop
  | [], _, a, m => Q a m
  | o :: rest, i, a, m => if Region.wanted o (yielded ops a.tmps) then
      (if mk i then o.makes P C R dep i a m ∧ ∀ v lo hi, wpMk P ops C R dep mk Q rest (i + 1) (a.put o.dst v) (m.upd i (v, lo, hi))
       else ∃ v, (∀ w, C w → o.plainAt P a w v) ∧ wpMk P ops C R dep mk Q rest (i + 1) (a.put o.dst v) m)
    else wpMk P ops C R dep mk Q rest (i + 1) (a.put o.dst undef) m

theorem wpAnyK_lex {n g : Nat} {Lq : Act → Made → Prop} (hsel : Region.noSelect ops = true) (hs : Region.sinkB md ops n = true) (hc : Region.chainB md ops n = true) (hn : n < ops.size) (hC : ∃ w, C w)
    (hdep : ∀ j d oj, dep j = some d → ops[j]? = some oj → ∃ e ∈ oj.after, Region.binds md e = true ∧ e.on = d) :
    ∀ (l : List Oper) (k : Nat) (listed : Array Bool) (a : Act) (m : Made), (∀ j, j < l.length → l[j]? = ops[k + j]?) → k + l.length = n → HeadInv md ops n listed →
    Region.lexHead md ops g l.length k listed = true → wpMk P ops C R dep mk Lq l k a m →
    wpAnyK P md ops C R dep mk n (fun listed' a' m' => Region.seqB md ops g n listed' = true ∧ Lq a' m') l.length listed a m
  | [], k, listed, a, m, _, hk, _, hB, h => by
    have : k = n := by simpa using hk
    subst this
    exact ⟨by simpa [Region.lexHead] using hB, h⟩
  | o :: l, k, listed, a, m, hl, hk, inv, hB, h => by
    have h0 : ops[k]? = some o := by simpa using (hl 0 (by simp)).symm
    simp only [List.length_cons, Region.lexHead, Bool.and_eq_true] at hB
    obtain ⟨⟨hr, hf⟩, hB'⟩ := hB
    have hkn : k < n := by simp only [List.length_cons] at hk; omega
    have hr' : k ∈ Region.ready md ops listed := by simpa using hr
    have hst : mOp P ops C R dep mk k (wpMk P ops C R dep mk Lq l (k + 1)) a m := by unfold mOp; simp only [h0]; exact h
    refine wpAnyK_first h0 (Region.noSelect_spec hsel) hs hc hn hkn hC hdep (fun listed' a' m' hL => seqB_ready hL.1) l.length listed a m inv (Region.free_spec h0 hf) hr' (mOp_mono (fun a' m' h' => ?_) hst)
    exact wpAnyK_lex hsel hs hc hn hC hdep l (k + 1) _ a' m' (fun j hj => by have := hl (j + 1) (by simp; omega); simpa [Nat.add_assoc, Nat.add_comm 1 j] using this) (by simp only [List.length_cons] at hk; omega) (inv.set hr' hkn) hB' h'

theorem wp_of_plain {o : Oper} {a : Act} {w : World} {v : Value} {K : Act → World → Prop} {Q : Exit → Act → World → Prop} (h : o.plainAt P a w v) (hK : K (a.put o.dst v) w) : o.wp P a w K Q := by
  unfold Oper.plainAt at h
  unfold Oper.wp
  generalize (execOp a.eval o).run P w = r at *
  cases r with
  | ok n w' =>
    cases n <;> simp only [Oper.plainUpon] at h <;> simp only [Oper.upon]
    · obtain ⟨rfl, rfl⟩ := h; exact hK
    · obtain ⟨rfl, rfl⟩ := h; exact hK
  | halt x w' => simp only [Oper.plainUpon] at h
theorem wp_of_made {o : Oper} {a : Act} {w : World} {Good : Value → World → Prop} {K : Act → World → Prop} {Q : Exit → Act → World → Prop} (h : Oper.madeUpon P Good ((execOp a.eval o).run P w)) (hK : ∀ v w', Good v w' → K (a.put o.dst v) w') : o.wp P a w K Q := by
  unfold Oper.wp
  generalize (execOp a.eval o).run P w = r at *
  cases r with
  | ok n w' =>
    cases n <;> simp only [Oper.madeUpon] at h <;> simp only [Oper.upon]
    · exact hK _ _ h
    · exact hK _ _ h
    · refine h.mono fun e w'' ⟨v, he, hg⟩ => ?_
      subst he; exact hK _ _ hg
  | halt x w' => simp only [Oper.madeUpon] at h

theorem wpAny_of_K {n g : Nat} {L : Array Bool → Act → Made → Prop} {Q' : Exit → Act → World → Prop} (hsz : n < ops.size)
    (hR : ∀ i v lo hi w w', R i v lo hi w → hi ≤ w.heap.size → Below w.heap.size w w' → R i v lo hi w')
    (hL : ∀ listed a m w, L listed a m → C w → MadeIn R m w → wpAny P md ops Q' g listed a w) :
    ∀ (f : Nat) (listed : Array Bool) (a : Act) (m : Made) (w : World), listed.size = ops.size → C w → MadeIn R m w → (∀ i, m i ≠ none → listed.getD i false = true) → wpAnyK P md ops C R dep mk n L f listed a m → wpAny P md ops Q' (f + g) listed a w
  | 0, listed, a, m, w, _, hw, hm, _, h => by rw [Nat.zero_add]; exact hL _ _ _ _ h hw hm
  | f + 1, listed, a, m, w, hls, hw, hm, hlm, h => by
    rw [show f + 1 + g = (f + g) + 1 by omega]
    refine ⟨fun h0 => absurd h0 h.1, fun i hi => ?_⟩
    have h1 := (h.2 i hi).2
    have hun := (mem_ready.1 hi).1
    have hnone : m i = none := by
      cases e : m i with
      | none => rfl
      | some x => have := hlm i (by rw [e]; simp); rw [getD_both hun] at this; cases this
    have hio : i < ops.size := by obtain ⟨_, o, ho, _⟩ := mem_ready.1 hi; exact (Array.getElem?_eq_some_iff.1 ho).1
    have hlm' : ∀ k, m k ≠ none → (listed.setIfInBounds i true).getD k false = true := fun k hk => getD_set_true (hlm k hk)
    unfold mOp at h1
    unfold wpOp
    split
    · rename_i ho; simp only [ho] at h1
      exact wpAny_of_K hsz hR hL f _ _ _ _ (by simpa using hls) hw hm hlm' h1
    · rename_i o ho
      simp only [ho] at h1
      split
      · rename_i hwt
        simp only [hwt, if_true] at h1
        refine .inl ?_
        split at h1
        · refine wp_of_made (h1.1 w hw fun d v lo hi _ hd => hm.one d v lo hi hd) fun v w' ⟨c1, c2, c3⟩ => ?_
          refine wpAny_of_K hsz hR hL f _ _ _ w' (by simpa using hls) c1 ⟨fun k u lo hi hk => ?_, fun k l u lo hi u' lo' hi' hkl hk hl => ?_⟩ (fun k hk => ?_) (h1.2 v w.heap.size w'.heap.size)
          · by_cases e : k = i
            · subst e; rw [Made.upd_same] at hk
              simp only [Option.some.injEq, Prod.mk.injEq] at hk
              obtain ⟨rfl, rfl, rfl⟩ := hk
              exact ⟨c3, Nat.le_refl _⟩
            · rw [Made.upd_ne _ e] at hk
              obtain ⟨r1, r2⟩ := hm.one k u lo hi hk
              exact ⟨hR _ _ _ _ _ _ r1 r2 c2, Nat.le_trans r2 c2.size⟩
          · by_cases e : k = i
            · subst e; rw [Made.upd_same] at hk
              rw [Made.upd_ne _ (Ne.symm hkl)] at hl
              simp only [Option.some.injEq, Prod.mk.injEq] at hk
              obtain ⟨rfl, rfl, rfl⟩ := hk
              exact .inr (hm.one l _ _ _ hl).2
            · rw [Made.upd_ne _ e] at hk
              by_cases e2 : l = i
              · subst e2; rw [Made.upd_same] at hl
                simp only [Option.some.injEq, Prod.mk.injEq] at hl
                obtain ⟨rfl, rfl, rfl⟩ := hl
                exact .inl (hm.one k _ _ _ hk).2
              · rw [Made.upd_ne _ e2] at hl
                exact hm.two k l _ _ _ _ _ _ hkl hk hl
          · by_cases e : k = i
            · subst e
              have : k < listed.size := by rw [hls]; exact hio
              simp [this]
            · rw [Made.upd_ne _ e] at hk; exact hlm' k hk
        · obtain ⟨v, hv, hK⟩ := h1
          exact wp_of_plain (hv w hw) (wpAny_of_K hsz hR hL f _ _ _ _ (by simpa using hls) hw hm hlm' hK)
      · rename_i hwt
        simp only [hwt] at h1
        exact wpAny_of_K hsz hR hL f _ _ _ _ (by simpa using hls) hw hm hlm' h1

/-- **A region that draws its order: its first n operations in whatever order, makers among them; then the others, one by one.** -/
theorem wp_region_makers {id : Nat} {Q : Exit → Act → World → Prop} {a : Act} {w : World} {l : List Oper} (n : Nat) (C : World → Prop) (R : Nat → Value → Nat → Nat → World → Prop) (dep : Nat → Option Nat) (mk : Nat → Bool)
    (hm : P.follows .mixedOrders = true) (hB : Region.lexTailB .any l.toArray n = true)
    (hdep : ((List.range n).all fun j => match dep j with | some d => Region.waitsFor .any l.toArray j d | none => true) = true) (hdn : ∀ j, n ≤ j → dep j = none)
    (hR : ∀ i v lo hi w w', R i v lo hi w → hi ≤ w.heap.size → Below w.heap.size w w' → R i v lo hi w')
    (hC : C { w with drawn := w.drawn + 1 })
    (h : wpMk P l.toArray C R dep mk (fun a' m' => ∀ w', C w' → MadeIn R m' w' → wpList P l.toArray Q (l.drop n) a' w') (l.take n) 0 a Made.none) : (Code.region id l.toArray true).wp P Q a w := by
  simp only [Region.lexTailB, Bool.and_eq_true, decide_eq_true_eq] at hB
  obtain ⟨⟨⟨⟨hsel, hn⟩, hs⟩, hc⟩, hlex⟩ := hB
  have hn' : n < l.length := by simpa using hn
  have htl : (l.take n).length = n := by simp; omega
  have hdl : (l.drop n).length = l.toArray.size - n := by simp
  have inv0 : HeadInv .any l.toArray n (Array.replicate l.toArray.size false) :=
    ⟨by simp, fun j oj _ hl => (by rw [getD_replicate_false] at hl; cases hl), fun t _ ht => getD_in (by simpa using ht) (getD_replicate_false _ _)⟩
  have hdep' : ∀ j d oj, dep j = some d → l.toArray[j]? = some oj → ∃ e ∈ oj.after, Region.binds .any e = true ∧ e.on = d := fun j d oj hj hoj => by
    rcases Nat.lt_or_ge j n with h | h
    · have := List.all_eq_true.1 hdep j (List.mem_range.2 h)
      simp only [hj] at this
      obtain ⟨oj', ho', e, he, hb, hon⟩ := Region.waitsFor_spec this
      have : oj' = oj := Option.some.inj (ho'.symm.trans hoj)
      subst this
      exact ⟨e, he, hb, hon⟩
    · rw [hdn j h] at hj; cases hj
  have H := wpAnyK_lex (md := .any) (g := l.toArray.size - n) hsel hs hc hn ⟨_, hC⟩ hdep' (l.take n) 0 _ a Made.none (fun j hj => by
    have hj' : j < n := by rw [htl] at hj; exact hj
    simp [hj']) (by simpa using htl) inv0 (by rw [htl]; exact hlex) h
  refine wp_region_any hm ?_
  have := wpAny_of_K (Q' := Q) (g := l.toArray.size - n) hn hR (fun listed a' m' w' hL hw hmd => by
    have := wpAny_of_seq (md := .any) (Q' := Q) (l.drop n) n listed a' w' (fun j => by simp [List.getElem?_drop]) (by rw [hdl]; exact hL.1) (hL.2 w' hw hmd)
    rwa [hdl] at this) _ _ _ _ _ (by simp) hC ⟨fun i v lo hi h => (by cases h), fun i j v lo hi u lo' hi' _ h => (by cases h)⟩ (fun i h => absurd rfl h) H
  rw [htl, show n + (l.toArray.size - n) = l.toArray.size by omega] at this
  exact this
end
end Go
