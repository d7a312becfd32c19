/- Chapter 12: what a thread has opened, kept from event to event, and as the places of its opens. Of any events. -/
import Derived.Test.YtbbdchlabdilcaaGreatM10
import Derived.Test.YtbbdchlabdilcaaGreatM5
set_option linter.unusedVariables false
namespace Go.Ord
section
variable (obj val : Int → Int)
/-- The last place of a list at which an object is told. -/
def lastQ (o : Int) : List Int → Option Int
  | [] => none
  | q :: qs => match lastQ o qs with
    | some r => some r
    | none => if obj q = o then some q else none
theorem lastQ_snoc (o r : Int) : ∀ qs, lastQ obj o (qs ++ [r]) = if obj r = o then some r else lastQ obj o qs
  | [] => by simp [lastQ]
  | q :: qs => by
    show (match lastQ obj o (qs ++ [r]) with | some x => some x | none => if obj q = o then some q else none) = _
    rw [lastQ_snoc o r qs]
    by_cases h : obj r = o
    · rw [if_pos h, if_pos h]
    · rw [if_neg h, if_neg h]; rfl
theorem lastQ_none (o : Int) : ∀ qs, lastQ obj o qs = none ↔ qs.all (fun q => !(obj q == o)) = true
  | [] => by simp [lastQ]
  | q :: qs => by
    have ih := lastQ_none o qs
    show (match lastQ obj o qs with | some x => some x | none => if obj q = o then some q else none) = none ↔ _
    rw [List.all_cons]
    cases e : lastQ obj o qs with
    | none =>
      rw [ih.1 e]
      by_cases h : obj q = o <;> simp [h]
    | some x =>
      have : ¬ qs.all (fun q => !(obj q == o)) = true := fun h => by rw [ih.2 h] at e; cases e
      simp only [Bool.and_eq_true]
      constructor
      · intro h; cases h
      · intro h; exact absurd h.2 this
theorem lastQ_obj {o q : Int} : ∀ {qs}, lastQ obj o qs = some q → obj q = o ∧ q ∈ qs
  | [], h => by cases h
  | r :: qs, h => by
    have h : (match lastQ obj o qs with | some x => some x | none => if obj r = o then some r else none) = some q := h
    cases e : lastQ obj o qs with
    | none =>
      rw [e] at h
      by_cases hr : obj r = o
      · rw [show (match (none : Option Int) with | some x => some x | none => if obj r = o then some r else none) = some r from if_pos hr] at h
        obtain rfl := Option.some.inj h
        exact ⟨hr, List.mem_cons_self ..⟩
      · rw [show (match (none : Option Int) with | some x => some x | none => if obj r = o then some r else none) = none from if_neg hr] at h; cases h
    | some x =>
      rw [e] at h
      obtain rfl := Option.some.inj h
      have := lastQ_obj e
      exact ⟨this.1, List.mem_cons_of_mem _ this.2⟩
def okAll (st : Int → Int) : List Int → Bool
  | [] => true
  | q :: qs => (!(qs.all fun r => !(obj r == obj q)) || (st (obj q) == val q)) && okAll st qs
theorem okAll_iff (st : Int → Int) : ∀ os, okAll obj val st os = true ↔ ∀ o q, lastQ obj o os = some q → st o = val q
  | [] => by simp [okAll, lastQ]
  | q :: qs => by
    have ih := okAll_iff st qs
    show ((!(qs.all fun r => !(obj r == obj q)) || (st (obj q) == val q)) && okAll obj val st qs) = true ↔ _
    rw [Bool.and_eq_true, ih]
    constructor
    · rintro ⟨h1, h2⟩ o r hr
      have hr : (match lastQ obj o qs with | some x => some x | none => if obj q = o then some q else none) = some r := hr
      cases e : lastQ obj o qs with
      | some x => rw [e] at hr; obtain rfl := Option.some.inj hr; exact h2 o _ e
      | none =>
        rw [e] at hr
        by_cases hq : obj q = o
        · rw [show (match (none : Option Int) with | some x => some x | none => if obj q = o then some q else none) = some q from if_pos hq] at hr
          obtain rfl := Option.some.inj hr
          subst hq
          rw [(lastQ_none obj _ qs).1 e] at h1
          simpa using h1
        · rw [show (match (none : Option Int) with | some x => some x | none => if obj q = o then some q else none) = none from if_neg hq] at hr; cases hr
    · intro h
      constructor
      · cases e : lastQ obj (obj q) qs with
        | some x =>
          have : ¬ qs.all (fun r => !(obj r == obj q)) = true := fun hh => by rw [(lastQ_none obj _ qs).2 hh] at e; cases e
          rw [show qs.all (fun r => !(obj r == obj q)) = false by simpa using this]; rfl
        | none =>
          have := h (obj q) q (by show (match lastQ obj (obj q) qs with | some x => some x | none => if obj q = obj q then some q else none) = some q; rw [e]; exact if_pos rfl)
          rw [this]; simp
      · intro o r hr
        exact h o r (by show (match lastQ obj o qs with | some x => some x | none => if obj q = o then some q else none) = some r; rw [hr])
theorem range_all_succ (f : Nat → Bool) (n : Nat) : (List.range (n+1)).all f = (f 0 && (List.range n).all fun i => f (i+1)) := by
  rw [List.range_succ_eq_map, List.all_cons, List.all_map]; rfl
theorem okAll_range (st : Int → Int) : ∀ os : List Int, (List.range os.length).all (fun i => !((os.drop (i+1)).all fun q => !(obj q == obj (os.getD i 0))) || (st (obj (os.getD i 0)) == val (os.getD i 0))) = okAll obj val st os
  | [] => rfl
  | q :: qs => by
    rw [List.length_cons, range_all_succ]
    show _ = ((!(qs.all fun r => !(obj r == obj q)) || (st (obj q) == val q)) && okAll obj val st qs)
    rw [← okAll_range st qs]
    rfl
/-- What a thread has opened, as it is kept: which objects, what was told of each, what was there at the last. -/
structure AttD where
  op : List Bool
  to : List Int
  th : List Int
def att0 : AttD := ⟨List.replicate 8 false, List.replicate 8 0, []⟩
def attO (a : AttD) (o : Nat) (v : Int) (st : List Int) : AttD := ⟨a.op.set o true, a.to.set o v, st⟩
def wasC (a : AttD) : Bool := (List.range a.th.length).all (fun o => !(a.op.getD o false && !(a.to.getD o 0 == a.th.getD o 0))) && decide (0 < a.th.length)
/-- It is what a list of opens comes to. -/
structure AttIs (n : Nat) (st : Int → List Int) (a : AttD) (os : List Int) : Prop where
  l1 : a.op.length = 8
  l2 : a.to.length = 8
  th : a.th = match os.getLast? with | some q => st q | none => []
  no : ∀ o : Nat, o < 8 → lastQ obj o os = none → a.op.getD o false = false
  yes : ∀ (o : Nat) q, o < 8 → lastQ obj o os = some q → a.op.getD o false = true ∧ a.to.getD o 0 = val q
  mem : ∀ q ∈ os, 0 ≤ obj q ∧ obj q < (n : Int)
theorem attIs0 (n : Nat) (st : Int → List Int) : AttIs obj val n st att0 [] where
  l1 := rfl
  l2 := rfl
  th := rfl
  no := fun o _ _ => by
    show (List.replicate 8 false).getD o false = false
    rw [List.getD_eq_getElem?_getD, List.getElem?_replicate]
    split <;> rfl
  yes := fun o q _ h => by cases h
  mem := fun q h => by cases h
theorem getD_set_eq {α : Type} (l : List α) (i : Nat) (x d : α) (h : i < l.length) : (l.set i x).getD i d = x := by simp [h]
theorem getD_set_ne {α : Type} (l : List α) (i j : Nat) (x d : α) (h : i ≠ j) : (l.set i x).getD j d = l.getD j d := by simp [List.getElem?_set_ne h]
theorem attIs_open {n : Nat} (hn : n ≤ 8) {st : Int → List Int} {a : AttD} {os : List Int} (h : AttIs obj val n st a os) (q : Int) (o : Nat) (ho : obj q = (o : Int)) (hon : o < n) : AttIs obj val n st (attO a o (val q) (st q)) (os ++ [q]) := by
  refine ⟨by unfold attO; simpa using h.l1, by unfold attO; simpa using h.l2, ?_, ?_, ?_, ?_⟩
  · unfold attO; simp
  · intro p hp hl
    rw [lastQ_snoc] at hl
    by_cases e : obj q = (p : Int)
    · rw [if_pos e] at hl; cases hl
    · rw [if_neg e] at hl
      unfold attO
      dsimp only
      rw [getD_set_ne _ _ _ _ _ (by omega)]
      exact h.no p hp hl
  · intro p r hp hl
    rw [lastQ_snoc] at hl
    by_cases e : obj q = (p : Int)
    · rw [if_pos e] at hl
      obtain rfl := Option.some.inj hl
      obtain rfl : o = p := by omega
      unfold attO
      dsimp only
      rw [getD_set_eq _ _ _ _ (by rw [h.l1]; omega), getD_set_eq _ _ _ _ (by rw [h.l2]; omega)]
      exact ⟨rfl, rfl⟩
    · rw [if_neg e] at hl
      unfold attO
      dsimp only
      rw [getD_set_ne _ _ _ _ _ (by omega), getD_set_ne _ _ _ _ _ (by omega)]
      exact h.yes p r hp hl
  · intro r hr
    rw [List.mem_append, List.mem_singleton] at hr
    rcases hr with hr | rfl
    · exact h.mem r hr
    · omega
theorem attIs_was {n : Nat} (hn : n ≤ 8) (h0 : 0 < n) {st : Int → List Int} (hst : ∀ q, (st q).length = n) {a : AttD} {os : List Int} (h : AttIs obj val n st a os) :
    wasC a = (decide (0 < os.length) && (List.range os.length).all (fun i => !((os.drop (i+1)).all fun q => !(obj q == obj (os.getD i 0))) || ((st (os.getD (os.length - 1) 0)).getD (obj (os.getD i 0)).toNat 0 == val (os.getD i 0)))) := by
  cases os with
  | nil =>
    have e : a.th = [] := h.th
    unfold wasC
    rw [e]; rfl
  | cons q0 qs =>
    have hl : (q0 :: qs).getLast? = some ((q0 :: qs).getD ((q0 :: qs).length - 1) 0) := by
      rw [List.getLast?_eq_getElem?, List.getD_eq_getElem?_getD]
      rw [List.getElem?_eq_getElem (by simp)]; rfl
    have hth := h.th
    rw [hl] at hth
    dsimp only at hth
    generalize (q0 :: qs).getD ((q0 :: qs).length - 1) 0 = lq at *
    rw [show decide (0 < (q0 :: qs).length) = true by simp, Bool.true_and, okAll_range obj val (fun o => (st lq).getD o.toNat 0)]
    have hlen : a.th.length = n := by rw [hth]; exact hst lq
    unfold wasC
    rw [hlen, show decide (0 < n) = true by simpa using h0, Bool.and_true, Bool.eq_iff_iff, okAll_iff, List.all_eq_true]
    constructor
    · intro hw o q hq
      obtain ⟨h1, h2⟩ := lastQ_obj obj hq
      have h3 := h.mem q h2
      obtain ⟨m, rfl⟩ := Int.eq_ofNat_of_zero_le (by omega : 0 ≤ o)
      have h4 := hw m (List.mem_range.2 (by omega))
      obtain ⟨y1, y2⟩ := h.yes m q (by omega) hq
      rw [y1, y2, hth] at h4
      rw [Int.toNat_natCast]
      simp at h4 ⊢
      exact h4.symm
    · intro ho m hm
      rw [List.mem_range] at hm
      cases e : lastQ obj (m : Int) (q0 :: qs) with
      | none => rw [h.no m (by omega) e]; rfl
      | some q =>
        obtain ⟨y1, y2⟩ := h.yes m q (by omega) e
        have h5 := ho m q e
        rw [Int.toNat_natCast] at h5
        rw [y1, y2, hth, h5]; simp
end
end Go.Ord
/- Chapter 12: attempts kept from event to event. -/
namespace Go.Proofs.YtbbdchlabdilcaaGreat
set_option maxRecDepth 100000
open Go.RowKit Go.Proofs Go.Own Go.Ord
def attE (a : AttD) (e : Event) (st : List Int) : AttD := if e.kind_ = 1 then attO a e.object_.toNat e.value_ st else if e.kind_ = 3 ∨ e.kind_ = 4 ∨ e.kind_ = 5 then att0 else a
/-- What a thread has open behind the first k events. -/
def attN (fs : List Int) (ds : List DescD) (lg : List Event) (th : Int) : Nat → AttD
  | 0 => att0
  | k+1 => match lg[k]? with
    | some e => if e.thread_ = th then attE (attN fs ds lg th k) e (stateN fs ds lg k) else attN fs ds lg th k
    | none => attN fs ds lg th k
theorem attN_succ {fs : List Int} {ds : List DescD} {lg : List Event} {th : Int} {k : Nat} (h : k < lg.length) : attN fs ds lg th (k+1) = if lg[k].thread_ = th then attE (attN fs ds lg th k) lg[k] (stateN fs ds lg k) else attN fs ds lg th k := by
  conv => lhs; unfold attN
  rw [List.getElem?_eq_getElem h]
theorem evObj_at {lg : List Event} {k : Nat} (h : k < lg.length) : evObj lg (k : Int) = lg[k].object_ := by
  unfold evObj
  rw [Int.toNat_natCast, List.getElem?_eq_getElem h]
theorem evVal_at {lg : List Event} {k : Nat} (h : k < lg.length) : evVal lg (k : Int) = lg[k].value_ := by
  unfold evVal
  rw [Int.toNat_natCast, List.getElem?_eq_getElem h]
theorem attN_is (fs : List Int) (ds : List DescD) (lg : List Event) (th : Int) (m t : Nat) (hn : fs.length ≤ 8) (hev : ∀ i, (hi : i < lg.length) → evOk fs.length m t lg[i] = true) : ∀ p, p ≤ lg.length → AttIs (evObj lg) (evVal lg) fs.length (fun q => stateN fs ds lg q.toNat) (attN fs ds lg th p) (attTo lg th p)
  | 0, _ => attIs0 _ _ _ _
  | p+1, h => by
    have ih := attN_is fs ds lg th m t hn hev p (by omega)
    rw [attN_succ (by omega), attTo_succ (by omega)]
    by_cases ht : lg[p].thread_ = th
    · rw [if_pos ht, if_pos ht]
      unfold attE
      by_cases h1 : lg[p].kind_ = 1
      · rw [if_pos h1, if_pos h1]
        obtain ⟨z1, z2⟩ := evOk_open (hev p (by omega)) h1
        have z := attIs_open (evObj lg) (evVal lg) hn ih (p : Int) lg[p].object_.toNat (by rw [evObj_at (by omega)]; omega) (by omega)
        rw [evVal_at (by omega), Int.toNat_natCast] at z
        exact z
      · rw [if_neg h1, if_neg h1]
        by_cases h3 : lg[p].kind_ = 3 ∨ lg[p].kind_ = 4 ∨ lg[p].kind_ = 5
        · rw [if_pos h3, if_pos h3]; exact attIs0 _ _ _ _
        · rw [if_neg h3, if_neg h3]; exact ih
    · rw [if_neg ht, if_neg ht]; exact ih
theorem seen_att {fs : List Int} {ds : List DescD} {lg : List Event} {m t p : Nat} (h0 : 0 < fs.length) (hn : fs.length ≤ 8) (hev : ∀ i, (hi : i < lg.length) → evOk fs.length m t lg[i] = true) (hp : p < lg.length) : seen12 fs ds lg p = wasC (attN fs ds lg lg[p].thread_ p) := by
  have z := attIs_was (evObj lg) (evVal lg) hn h0 (fun q => stateN_len fs ds lg q.toNat) (attN_is fs ds lg lg[p].thread_ m t hn hev p (by omega))
  rw [z]
  unfold seen12
  rw [List.getElem?_eq_getElem hp]
  rfl
end Go.Proofs.YtbbdchlabdilcaaGreat
/- An append whose two slices are of two named types. Of any program. -/
namespace Go.Own
open Go.RowKit
set_option linter.unusedVariables false
theorem append_types {P : Program} {t t2 ty e e2 : TypeId} {i : TypeInfo} (h1 : P.underlying t = some (.slice e)) (h2 : P.underlying t2 = some (.slice e2)) (hi : P.info? e = some i) (a a2 : Option Addr) (n c n2 c2 : Nat) (w : World) : (Builtin.append_ #[t, t2] ty #[.slice a n c, .slice a2 n2 c2]).run P w = (Builtin.append_ #[t, t] ty #[.slice a n c, .slice a2 n2 c2]).run P w := by
  simp [Builtin.append_, run_underlying h1, run_underlying h2, sizeOf, typeInfo, hi, Builtin.lenOf]
theorem wpList_append_two {P : Program} {w : World} {ops : Array Oper} {rest : List Oper} {o : Oper} {a : Act} {Q : Exit → Act → World → Prop} (hgd : o.guard = none) (s x : Operand) (t t2 e2 : TypeId)
    (ho : o.op = .call { callee := .builtin .append, args := #[s, x], argTypes := #[t, t2] })
    (base : Nat) (e : TypeId) (i : TypeInfo) (z : Value) (size bytes : Nat) (ht : P.underlying t = some (.slice e)) (ht2 : P.underlying t2 = some (.slice e2)) (hi : P.info? e = some i) (hz : i.zero = some z)
    (hsize : i.size = size) (hby : i.bytes = bytes) (hzs : z.cells.size = size) (hsz : 0 < size)
    (v : Value) (n : Nat) (xs : List Value) (hs : a.eval s = v) (hown : w.ownsRow base e size v n xs)
    (u : Value) (m : Nat) (news : List Value) (hx : a.eval x = u) (hu : Flat w u m size news) (h1 : ∀ c ∈ news, c.oneCell' = true)
    (h63 : n + m ≤ maxLen) (hbytes : (n + m) * bytes ≤ 140737488355328) (hbase : base ≤ w.heap.size)
    (h : ∀ v' w', w'.ownsRow base e size v' (n + m) (xs ++ news) → w.grownBy w' v.ownBlock → wpList P ops Q rest (a.put o.dst v') w') : wpList P ops Q (o :: rest) a w := by
  rcases hu.src with ⟨rfl, rfl, rfl⟩ | ⟨ad, cap, rfl, hl, hc⟩
  · have hrun := run_append_owned_none (P := P) (w := w) base t o.type e i size ht hi v n xs hown
    obtain ⟨sa, sm, sc, rfl⟩ := owns_form3 hown
    rw [← append_types ht ht2 hi] at hrun
    refine wpList_plain hgd fun K hK => ?_
    unfold Oper.wp
    simp [execOp, ho, resolve, invoke, builtin, hs, hx, hrun, Result.andThen]
    exact hK _ _ (h _ w (by simpa using hown) (World.grownBy.refl _ _))
  · obtain ⟨v', w', hrun, r1, r2, _⟩ := run_append_own (P := P) (w := w) base t o.type e i z size bytes ht hi hz hsize hby hzs hsz v n xs hown ad m cap news hl hc h1 h63 hbytes hbase
    obtain ⟨sa, sm, sc, rfl⟩ := owns_form3 hown
    rw [← append_types ht ht2 hi] at hrun
    refine wpList_plain hgd fun K hK => ?_
    unfold Oper.wp
    simp [execOp, ho, resolve, invoke, builtin, hs, hx, hrun, Result.andThen]
    exact hK _ _ (h v' w' r1 r2)
end Go.Own
