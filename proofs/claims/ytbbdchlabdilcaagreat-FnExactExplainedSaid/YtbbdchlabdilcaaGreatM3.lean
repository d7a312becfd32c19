/- Chapter 7: what its functions answer. -/
import Derived.Test.YtbbdchlabdilcaaGreatF6
import Derived.Test.YtbbdchlabdilcaaGreatN7
import Derived.Test.YtbbdchlabdilcaaGreatM2
import Derived.Test.YtbbdchlabdilcaaGreatProg
import Derived.Test.YtbbdchlabdilcaaGreatBx
namespace Go.Proofs.YtbbdchlabdilcaaGreat
set_option maxRecDepth 100000
open Go.RowKit Go.Proofs Go.Own
theorem all_step {α : Type} (f : α → Bool) (xs : List α) (k : Nat) (h : k < xs.length) : (xs.drop k).all f = (f xs[k] && (xs.drop (k+1)).all f) := by
  rw [List.drop_eq_getElem_cons h]; rfl
theorem all_end {α : Type} (f : α → Bool) (xs : List α) (k : Nat) (h : ¬ k < xs.length) : (xs.drop k).all f = true := by
  rw [List.drop_eq_nil_of_le (by omega)]; rfl
/-- The object of a list's last entry. -/
def lastO (xs : List Entry) : Int := match xs[xs.length - 1]? with | some e => e.object_ | none => 0
theorem lastO_eq {xs : List Entry} (h : xs.length - 1 < xs.length) : lastO xs = xs[xs.length - 1].object_ := by
  unfold lastO; rw [List.getElem?_eq_getElem h]
def descIn (n : Nat) (d : DescD) : Bool := descOk d.owner_ d.status_ d.entries_ && !decide ((n : Int) ≤ lastO d.entries_)
theorem descIn_ok {n : Nat} {d : DescD} (h : descOk d.owner_ d.status_ d.entries_ = true) : descIn n d = !decide ((n : Int) ≤ lastO d.entries_) := by unfold descIn; rw [h]; rfl
theorem descIn_no {n : Nat} {d : DescD} (h : descOk d.owner_ d.status_ d.entries_ = false) : descIn n d = false := by unfold descIn; rw [h]; rfl
theorem descOk_len {ow st : Int} {xs : List Entry} (h : descOk ow st xs = true) : 0 < xs.length ∧ xs.length ≤ 6 := by
  have h2 := openOk_len (descOk_open h)
  unfold descOk at h
  simp only [Bool.and_eq_true, decide_eq_true_eq] at h
  exact ⟨h.1.1.2, h2⟩
/-- The entries of the descriptor at a place. -/
def entsAt (ds : List DescD) (k : Int) : List Entry := match ds[k.toNat]? with | some d => d.entries_ | none => []
theorem entsAt_eq {ds : List DescD} {k : Nat} (h : k < ds.length) : entsAt ds k = ds[k].entries_ := by
  unfold entsAt; rw [Int.toNat_natCast, List.getElem?_eq_getElem h]
def headIn (ds : List DescD) (i : Nat) (h : Head) : Bool := isVal h.value_ && inB h.version_ 0 1000000 && inB h.desc_ (-1) ((ds.length : Int) - 1) && !(decide (0 ≤ h.desc_) && decide (openedC (entsAt ds h.desc_) i < 0))
def headsGo (ds : List DescD) : List Head → Nat → Bool
  | [], _ => true
  | h :: hs, i => headIn ds i h && headsGo ds hs (i+1)
def headsAt (ds : List DescD) (hs : List Head) (k : Nat) : Bool := headsGo ds (hs.drop k) k
theorem headsAt_step (ds : List DescD) (hs : List Head) (k : Nat) (h : k < hs.length) : headsAt ds hs k = (headIn ds k hs[k] && headsAt ds hs (k+1)) := by
  unfold headsAt; rw [List.drop_eq_getElem_cons h]; rfl
theorem headsAt_end (ds : List DescD) (hs : List Head) (k : Nat) (h : ¬ k < hs.length) : headsAt ds hs k = true := by
  unfold headsAt; rw [List.drop_eq_nil_of_le (by omega)]; rfl
def storeOk (hs : List Head) (ds : List DescD) : Bool := inB (hs.length : Int) 1 8 && !decide ((60 : Int) < ds.length) && ds.all (descIn hs.length) && headsAt ds hs 0
theorem storeOk_all {hs : List Head} {ds : List DescD} (h : storeOk hs ds = true) : (1 ≤ hs.length ∧ hs.length ≤ 8) ∧ ds.length ≤ 60 ∧ (∀ i, (hi : i < ds.length) → descIn hs.length ds[i] = true) ∧ ∀ i, (hi : i < hs.length) → headIn ds i hs[i] = true := by
  unfold storeOk at h
  simp only [Bool.and_eq_true, Bool.not_eq_true', decide_eq_false_iff_not, List.all_eq_true] at h
  obtain ⟨⟨⟨h1, h2⟩, h3⟩, h4⟩ := h
  have h5 : (1 : Int) ≤ hs.length ∧ (hs.length : Int) ≤ 8 := by simpa [inB] using h1
  refine ⟨by omega, by omega, fun i hi => h3 _ (List.getElem_mem hi), fun i hi => ?_⟩
  have : ∀ (k : Nat), k ≤ hs.length → headsAt ds hs k = true := by
    intro k
    induction k with
    | zero => intro _; exact h4
    | succ k ih =>
      intro hk
      have := ih (by omega)
      rw [headsAt_step ds hs k (by omega)] at this
      simp only [Bool.and_eq_true] at this
      exact this.2
  have h6 := this i (by omega)
  rw [headsAt_step ds hs i hi] at h6
  simp only [Bool.and_eq_true] at h6
  exact h6.1
/-- What a look tells. -/
def lookOk (hs : List Head) (ds : List DescD) (o : Int) : Bool := storeOk hs ds && inB o 0 ((hs.length : Int) - 1)
def lookH (hs : List Head) (ds : List DescD) (o : Int) : Head := if lookOk hs ds o = true then (match hs[o.toNat]? with | some h => h | none => ⟨0, 0, 0⟩) else ⟨0, 0, 0⟩
theorem lookH_no {hs : List Head} {ds : List DescD} {o : Int} (h : lookOk hs ds o = false) : lookH hs ds o = ⟨0, 0, 0⟩ := by unfold lookH; rw [h]; rfl
theorem lookH_yes {hs : List Head} {ds : List DescD} {k : Nat} (h : lookOk hs ds k = true) (hk : k < hs.length) : lookH hs ds k = hs[k] := by
  unfold lookH; rw [h, if_pos rfl, Int.toNat_natCast, List.getElem?_eq_getElem hk]
/-- A frame that is so. -/
def frameOk (hs : List Head) (ds : List DescD) (f : Frame) : Bool := storeOk hs ds && inB f.desc_ 0 ((ds.length : Int) - 1) && inB f.phase_ 0 5 && (if f.phase_ = 1 ∨ f.phase_ = 4 then inB f.at_ 0 (((entsAt ds f.desc_).length : Int) - 1) else decide (f.at_ = 0))
/-- The objects that are held, of the first k. -/
def heldTo (hs : List Head) : Nat → List Int
  | 0 => []
  | k+1 => heldTo hs k ++ (match hs[k]? with | some h => if 0 ≤ h.desc_ then [(k : Int)] else [] | none => [])
theorem heldTo_yes {hs : List Head} {k : Nat} (h : k < hs.length) (hd : 0 ≤ hs[k].desc_) : heldTo hs (k+1) = heldTo hs k ++ [(k : Int)] := by
  show _ ++ (match hs[k]? with | some h => if 0 ≤ h.desc_ then [(k : Int)] else [] | none => []) = _
  rw [List.getElem?_eq_getElem h]; simp [hd]
theorem heldTo_no {hs : List Head} {k : Nat} (h : k < hs.length) (hd : ¬ 0 ≤ hs[k].desc_) : heldTo hs (k+1) = heldTo hs k := by
  show _ ++ (match hs[k]? with | some h => if 0 ≤ h.desc_ then [(k : Int)] else [] | none => []) = _
  rw [List.getElem?_eq_getElem h]; simp [hd]
theorem heldTo_len (hs : List Head) : ∀ k, (heldTo hs k).length ≤ k
  | 0 => by simp [heldTo]
  | k+1 => by
    have := heldTo_len hs k
    unfold heldTo
    rw [List.length_append]
    split
    · split <;> simp <;> omega
    · simp; omega
def heldC (hs : List Head) (ds : List DescD) : List Int := if storeOk hs ds = true then heldTo hs hs.length else []
theorem heldC_len (hs : List Head) (ds : List DescD) : (heldC hs ds).length ≤ 8 := by
  unfold heldC
  split
  · rename_i h
    have h1 := (storeOk_all h).1.2
    have h2 := heldTo_len hs hs.length
    omega
  · simp
/-- On to the next entry, or to the phase behind the last. -/
def nextF (ds : List DescD) (f : Frame) (b : Int) : Frame := if f.at_ + 1 < ((entsAt ds f.desc_).length : Int) then ⟨f.desc_, f.phase_, f.at_ + 1⟩ else ⟨f.desc_, b, 0⟩
/-- A store made anew. -/
def newOk (xs : List Int) : Bool := inB (xs.length : Int) 1 8 && allIn xs (-1000000000) 1000000000 0
def mkHd (x : Int) : Head := ⟨x, 0, -1⟩
def newH (xs : List Int) : List Head := if newOk xs = true then xs.map mkHd else []
end Go.Proofs.YtbbdchlabdilcaaGreat
/- Chapter 7: what the program's own functions answer is what the chapter's do. -/
namespace Go.Proofs.YtbbdchlabdilcaaGreat
set_option maxRecDepth 100000
open Go.RowKit Go.Proofs Go.Own
def objIn (n : Nat) (e : Entry) : Bool := decide (0 ≤ e.object_) && decide (e.object_ < (n : Int))
theorem asc_le {xs : List Entry} (h : ascGo xs = true) : ∀ (d i : Nat), (hj : i + d < xs.length) → xs[i].object_ ≤ xs[i+d].object_
  | 0, i, hj => Int.le_refl _
  | d+1, i, hj => by
    have h1 := asc_le h d i (by omega)
    have h2 := ascGo_at xs h (i+d) (by omega)
    have e : xs[i+(d+1)] = xs[i+d+1] := rfl
    rw [e]; omega
theorem descIn_is {n : Nat} {d : DescD} : descIn n d = (descOk d.owner_ d.status_ d.entries_ && d.entries_.all (objIn n)) := by
  unfold descIn
  cases h : descOk d.owner_ d.status_ d.entries_ with
  | false => rfl
  | true =>
    rw [Bool.true_and, Bool.true_and]
    obtain ⟨h0, h6⟩ := descOk_len h
    have ho := descOk_open h
    have ha : ascGo d.entries_ = true := by unfold descOk at h; simp only [Bool.and_eq_true] at h; exact h.2
    have hl := lastO_eq (show d.entries_.length - 1 < d.entries_.length by omega)
    by_cases hge : (n : Int) ≤ lastO d.entries_
    · rw [decide_eq_true hge]
      symm
      rw [Bool.not_true, List.all_eq_false]
      refine ⟨d.entries_[d.entries_.length - 1], List.getElem_mem _, ?_⟩
      unfold objIn
      rw [← hl, decide_eq_false (show ¬ lastO d.entries_ < (n : Int) by omega), Bool.and_false]
      simp
    · rw [decide_eq_false hge]
      symm
      rw [Bool.not_false, List.all_eq_true]
      intro e he
      obtain ⟨i, hi, rfl⟩ := List.getElem_of_mem he
      have h1 := (entryOk_iff.1 (openOk_at ho i hi).1).1.1
      have h2 := asc_le ha (d.entries_.length - 1 - i) i (by omega)
      have e2 : i + (d.entries_.length - 1 - i) = d.entries_.length - 1 := by omega
      simp only [e2] at h2
      unfold objIn
      rw [decide_eq_true h1, decide_eq_true (show d.entries_[i].object_ < (n : Int) by omega)]
      rfl
/-- What may lie over an object. -/
def mayLie (ds : List DescD) (d : Int) (o : Int) : Bool := decide (d = -1) || (decide (0 ≤ d) && decide (d < (ds.length : Int)) && decide (0 ≤ placeC (entsAt ds d) o))
def headIn2 (ds : List DescD) (i : Nat) (h : Head) : Bool := isVal h.value_ && inB h.version_ 0 1000000 && mayLie ds h.desc_ i
theorem headIn_is {n : Nat} {ds : List DescD} (hd : ∀ i, (hi : i < ds.length) → descIn n ds[i] = true) (i : Nat) (h : Head) : headIn ds i h = headIn2 ds i h := by
  unfold headIn headIn2 mayLie
  rw [Bool.and_assoc (isVal h.value_ && inB h.version_ 0 1000000)]
  congr 1
  by_cases h1 : h.desc_ = -1
  · rw [h1]; simp [inB]; omega
  · by_cases h2 : 0 ≤ h.desc_
    · by_cases h3 : h.desc_ < (ds.length : Int)
      · obtain ⟨k, hk⟩ := Int.eq_ofNat_of_zero_le h2
        have hkl : k < ds.length := by omega
        have ho : openOk (entsAt ds h.desc_) = true := by
          rw [hk, entsAt_eq hkl]
          have := hd k hkl
          rw [descIn_is] at this
          simp only [Bool.and_eq_true] at this
          exact descOk_open this.1
        have e : openedC (entsAt ds h.desc_) i = placeC (entsAt ds h.desc_) i := by unfold openedC; rw [ho]; rfl
        rw [e]
        have hb : inB h.desc_ (-1) ((ds.length : Int) - 1) = true := by simp [inB]; omega
        rw [hb, decide_eq_true h2, decide_eq_true h3, decide_eq_false h1]
        by_cases h4 : placeC (entsAt ds h.desc_) i < 0
        · rw [decide_eq_true h4, decide_eq_false (by omega)]; rfl
        · rw [decide_eq_false h4, decide_eq_true (by omega)]; rfl
      · have hb : inB h.desc_ (-1) ((ds.length : Int) - 1) = false := by simp [inB]; omega
        rw [hb, decide_eq_false h3, decide_eq_false h1]; simp
    · have hb : inB h.desc_ (-1) ((ds.length : Int) - 1) = false := by simp [inB]; omega
      rw [hb, decide_eq_false h2, decide_eq_false h1]; simp
def headsGo2 (ds : List DescD) : List Head → Nat → Bool
  | [], _ => true
  | h :: hs, i => headIn2 ds i h && headsGo2 ds hs (i+1)
def headsAt2 (ds : List DescD) (hs : List Head) (k : Nat) : Bool := headsGo2 ds (hs.drop k) k
theorem headsAt2_step (ds : List DescD) (hs : List Head) (k : Nat) (h : k < hs.length) : headsAt2 ds hs k = (headIn2 ds k hs[k] && headsAt2 ds hs (k+1)) := by
  unfold headsAt2; rw [List.drop_eq_getElem_cons h]; rfl
theorem headsAt2_end (ds : List DescD) (hs : List Head) (k : Nat) (h : ¬ k < hs.length) : headsAt2 ds hs k = true := by
  unfold headsAt2; rw [List.drop_eq_nil_of_le (by omega)]; rfl
theorem headsGo_is {n : Nat} {ds : List DescD} (hd : ∀ i, (hi : i < ds.length) → descIn n ds[i] = true) : ∀ (hs : List Head) (i : Nat), headsGo ds hs i = headsGo2 ds hs i
  | [], _ => rfl
  | h :: hs, i => by
    unfold headsGo headsGo2
    rw [headIn_is hd, headsGo_is hd hs (i+1)]
theorem heads_is {n : Nat} {ds : List DescD} (hs : List Head) (h : ds.all (descIn n) = true) : headsAt ds hs 0 = headsAt2 ds hs 0 :=
  headsGo_is (fun i hi => List.all_eq_true.1 h _ (List.getElem_mem hi)) _ _
end Go.Proofs.YtbbdchlabdilcaaGreat
/- Chapter 12: descriptors done on values, one at a time. -/
namespace Go.Proofs.YtbbdchlabdilcaaGreat
set_option maxRecDepth 100000
open Go.RowKit Go.Proofs Go.Own
/-- A descriptor's entries done on values: the first k of them. -/
def doE (vs : List Int) (e : Entry) : List Int := if e.write_ = true then vs.set e.object_.toNat e.new_ else vs
def doTo (vs : List Int) (es : List Entry) : Nat → List Int
  | 0 => vs
  | k+1 => match es[k]? with | some e => doE (doTo vs es k) e | none => doTo vs es k
theorem doTo_succ {vs : List Int} {es : List Entry} {k : Nat} (h : k < es.length) : doTo vs es (k+1) = doE (doTo vs es k) es[k] := by
  conv => lhs; unfold doTo
  rw [List.getElem?_eq_getElem h]
theorem doE_len (vs : List Int) (e : Entry) : (doE vs e).length = vs.length := by unfold doE; split <;> simp
theorem doTo_len (vs : List Int) (es : List Entry) : ∀ k, (doTo vs es k).length = vs.length
  | 0 => rfl
  | k+1 => by
    unfold doTo
    split
    · rw [doE_len, doTo_len vs es k]
    · exact doTo_len vs es k
def doL (vs : List Int) (es : List Entry) : List Int := doTo vs es es.length
theorem doL_len (vs : List Int) (es : List Entry) : (doL vs es).length = vs.length := doTo_len _ _ _
def canL (vs : List Int) (es : List Entry) : Bool := es.all fun e => vs.getD e.object_.toNat 0 == e.old_
/-- Serial. -/
def args12 (fs : List Int) (ds : List DescD) (most : Int) : Bool := (inB (fs.length : Int) 1 8 && allIn fs (-1000000000) 1000000000 0 && !decide (most < (ds.length : Int))) && ds.all (descIn fs.length)
def serTo (vs : List Int) (ds : List DescD) : Nat → Nat → List Int × Bool
  | 0, _ => (vs, true)
  | n+1, i => match ds[i]? with
    | some d => if canL vs d.entries_ = true then serTo (doL vs d.entries_) ds n (i+1) else (vs, false)
    | none => (vs, true)
def serC (fs : List Int) (ds : List DescD) : List Int × Bool := if args12 fs ds 60 = true then serTo fs ds ds.length 0 else ([], false)
theorem serTo_len (ds : List DescD) : ∀ n i vs, (serTo vs ds n i).1.length = vs.length
  | 0, _, _ => rfl
  | n+1, i, vs => by
    unfold serTo
    split
    · split
      · rw [serTo_len ds n (i+1), doL_len]
      · rfl
    · rfl
end Go.Proofs.YtbbdchlabdilcaaGreat
/- Chapter 6's model: an entry that is so, OpenOk, Opened, a list's copy. -/
/- The contracts of the model's small functions. -/
namespace Go.Proofs.YtbbdchlabdilcaaGreat
set_option maxRecDepth 100000
open Go.RowKit Go.Proofs Go.Own

theorem spec_l1In (x a b : Int) (w : World) :
    Calls Tryz.prog 128 #[.int .i64 x, .int .i64 a, .int .i64 b] w fun e w' => e = .returned (.bool (inB x a b)) ∧ w = w' := by
  go_enter Tryz.func128, Tryz.ntmps128
  go_wp2
  all_goals go_ret
  all_goals (simp [inB, *]; try omega)

theorem spec_l1Value (x : Int) (w : World) :
    Calls Tryz.prog 157 #[.int .i64 x] w fun e w' => e = .returned (.bool (isVal x)) ∧ w = w' := by
  go_enter Tryz.func157, Tryz.ntmps157
  go_wp2_with (go_at_call 128; refine (spec_l1In _ _ _ _).mono ?_; rintro e w' ⟨rfl, rfl⟩)
  go_ret
  exact ⟨rfl, rfl⟩

theorem infoInt0 : (Tryz.prog.info? 3).map (fun i => (i.zero, i.size, i.bytes)) = some (some (.int .i64 0), 1, 8) := by kernel_rfl
theorem spec_l1Copy (v : Value) (xs : List Int) (w : World) (h : Ints w v xs) (hx : xs.length ≤ 1048576) :
    Calls Tryz.prog 180 #[v] w fun e w' => ∃ v', e = .returned v' ∧ w'.ownsRow w.heap.size 3 1 v' xs.length (xs.flatMap encI) ∧ Below w.heap.size w w' := by
  obtain ⟨i0, hi, hz0, hz1, hz2⟩ := info_parts infoInt0
  have hone := hid (oneCell_enc oneCell_I xs)
  obtain ⟨ad, cap, rfl, hl, hm⟩ := Flat.form h
  have hown : (w.alloc (.cells #[] 3)).ownsRow w.heap.size 3 1 (.slice (some ⟨w.heap.size, 0, none⟩) 0 0) 0 [] := World.ownsRow_made _ _ _ (Nat.le_refl _) (Nat.zero_le _) rfl
  have hB : Below w.heap.size w (w.alloc (.cells #[] 3)) := (Below.refl _ _).alloc (Nat.le_refl _) _
  have h2 := Flat.below h hB
  go_enter Tryz.func180, Tryz.ntmps180
  go_wp2_with (at_builtin; refine wpList_append_flat rfl _ _ 24 rfl w.heap.size 3 i0 (.int .i64 0) 1 8 Tryz.underlying24 hi hz0 hz1 hz2 rfl (by decide) _ _ _ rfl hown _ _ _ rfl h2 hone.out (by unfold maxLen; omega) (by omega) (by simp) ?_)
  intro v' w1 ho hg
  have hB1 := hB.trans (below_of_mark hown hg (Nat.le_refl _) (by simp))
  go_wp2
  go_ret
  exact ⟨_, rfl, ho, hB1⟩


theorem quiet_eq {P : Program} {f : FuncId} {args : Array Value} {w : World} {n : Nat} {v : Value}
    (h : Calls P f args (w.drewN n) fun e w' => e = .returned v ∧ w.drewN n = w') : Calls P f args (w.drewN n) fun e w'' => e = .returned v ∧ ∃ m, w'' = w.drewN m :=
  h.mono fun _ _ ⟨he, hm⟩ => ⟨he, n, hm.symm⟩


/-- A slice cut at k from its beginning. -/
theorem Ints.cut {w : World} {v : Value} {xs : List Int} {b off cap : Nat} (h : Ints w v xs) (hv : v = .slice (some ⟨b, off, none⟩) xs.length cap) (k : Nat) (hk : k ≤ xs.length) : Ints w (.slice (some ⟨b, off, none⟩) k cap) (xs.take k) := by
  obtain ⟨_, a, c, e, h1, h2, _, h3⟩ := h
  rw [hv] at e
  obtain ⟨rfl, rfl⟩ : a = some ⟨b, off, none⟩ ∧ c = cap := by simp at e; exact ⟨e.1.symm, e.2.symm⟩
  have hl : (xs.take k).length = k := by simp; omega
  refine ⟨flatMap_len encI 1 (fun _ => rfl) _, _, _, by rw [hl], by omega, h2, (by intro e; cases e), ?_⟩
  by_cases h0 : k = 0
  · exact .inl (by omega)
  · rcases h3 with h3 | ⟨b', off', ha, hs, hc⟩
    · omega
    · simp only [Option.some.injEq, Addr.mk.injEq, and_true] at ha
      obtain ⟨rfl, rfl⟩ := ha
      refine .inr ⟨b, off, rfl, hs, fun j hj => ?_⟩
      have hj' : j < k := by rw [flatMap_len encI 1 (fun _ => rfl)] at hj; omega
      have hjx : j < (xs.flatMap encI).length := by rw [flatMap_len encI 1 (fun _ => rfl)]; omega
      rw [hc j hjx]
      congr 1
      simp only [encI_map, List.getElem_map, List.getElem_take]

end Go.Proofs.YtbbdchlabdilcaaGreat
namespace Go.Proofs.YtbbdchlabdilcaaGreat
set_option maxRecDepth 100000
open Go.RowKit Go.Proofs Go.Own
set_option linter.unusedVariables false
set_option linter.unusedSimpArgs false
set_option maxHeartbeats 2000000 in
theorem spec_l6Entry (e : Entry) (w : World) :
    Calls Tryz.prog 216 #[.agg #[.int .i64 e.object_, .int .i64 e.version_, .int .i64 e.old_, .int .i64 e.new_, .bool e.write_]] w fun r w' => r = .returned (.bool (entryOk e)) ∧ Below w.heap.size w w' := by
  obtain ⟨a0, a1, a2, a3, a4⟩ := e
  have hE := hid (show entryOk ⟨a0, a1, a2, a3, a4⟩ = (inB a0 0 7 && inB a1 0 1000000 && isVal a2 && isVal a3 && (a4 || a3 == a2)) from rfl)
  dsimp only
  go_enter Tryz.func216, Tryz.ntmps216
  go_wp2_with (first | (go_at_call 128; refine (spec_l1In _ _ _ _).mono ?_; rintro e w' ⟨rfl, rfl⟩) | (go_at_call 157; refine (spec_l1Value _ _).mono ?_; rintro e w' ⟨rfl, rfl⟩))
  all_goals go_ret
  all_goals refine ⟨ret_bool (by rw [hE.out]; simp [*]), (Below.refl _ _).alloc (Nat.le_refl _) _⟩
/-- The cells of an entry behind a step. -/
theorem cells5 {w wr : World} {b o : Nat} {v0 v1 v2 v3 v4 : Value} (hB : Below w.heap.size w wr) (hb : b < w.heap.size) (c0 : w.cell? ⟨b, o, none⟩ = some v0) (c1 : w.cell? ⟨b, o + 1, none⟩ = some v1) (c2 : w.cell? ⟨b, o + 2, none⟩ = some v2) (c3 : w.cell? ⟨b, o + 3, none⟩ = some v3) (c4 : w.cell? ⟨b, o + 4, none⟩ = some v4) :
    wr.cell? ⟨b, o, none⟩ = some v0 ∧ wr.cell? ⟨b, o + 1, none⟩ = some v1 ∧ wr.cell? ⟨b, o + 2, none⟩ = some v2 ∧ wr.cell? ⟨b, o + 3, none⟩ = some v3 ∧ wr.cell? ⟨b, o + 4, none⟩ = some v4 :=
  ⟨(hB.cell (p := ⟨b, o, none⟩) hb).trans c0, (hB.cell (p := ⟨b, o + 1, none⟩) hb).trans c1, (hB.cell (p := ⟨b, o + 2, none⟩) hb).trans c2, (hB.cell (p := ⟨b, o + 3, none⟩) hb).trans c3, (hB.cell (p := ⟨b, o + 4, none⟩) hb).trans c4⟩
set_option maxHeartbeats 8000000 in
theorem spec_OpenOk (v : Value) (xs : List Entry) (w : World) (h : Entrys w v xs) :
    Calls Tryz.prog 156 #[v] w fun e w' => e = .returned (.bool (openOk xs)) ∧ Below w.heap.size w w' := by
  obtain ⟨ad, cap, rfl, hl, hm, hc⟩ := h.open
  clear h
  have hlen : xs.length ≤ 9223372036854775807 := by omega
  have HC := hid hc
  clear hc
  go_enter Tryz.func156, Tryz.ntmps156
  go_wp2
  go_loopw [3] (fun i wr => ∃ k : Nat, k ≤ xs.length ∧ i = .int .i64 k ∧ Same (openAt xs 0) (openAt xs k) ∧ Below w.heap.size w wr) (fun i _ => xs.length - (intOf i).toNat)
  case atStart => exact ⟨0, by omega, rfl, .rfl, Below.refl _ _⟩
  case round =>
    obtain ⟨k, hk, rfl, hS, hB⟩ := hrel
    by_cases hlt : k < xs.length
    · obtain ⟨bb, off, rfl, hbs, c0, c1, c2, c3, c4⟩ := HC.out k hlt
      obtain ⟨e0, e1, e2, e3, e4⟩ := cells5 hB hbs c0 c1 c2 c3 c4
      have hst := hid (openAt_step xs k hlt)
      clear c0 c1 c2 c3 c4
      cases hE : entryOk xs[k] with
      | false =>
        have Hn := hid (openOk_of_bad k hS.out (by rw [hst.out, hE]; rfl))
        go_wp2_with fail
        refine (spec_l6Entry xs[k] _).mono ?_
        rintro e w2 ⟨rfl, hB1⟩
        rw [hE]
        have hB2 := hB.trans (hB1.mono hB.size)
        go_wp2
        go_ret
        exact ⟨ret_bool Hn.out.symm, hB2⟩
      | true =>
        go_wp2_with fail
        refine (spec_l6Entry xs[k] _).mono ?_
        rintro e w2 ⟨rfl, hB1⟩
        rw [hE]
        have hB2 := hB.trans (hB1.mono hB.size)
        have f0 := (hB2.cell (p := ⟨bb, off + k * 5, none⟩) hbs).trans (HC.out k hlt |> fun ⟨_, _, q, _, c, _⟩ => by cases q; exact c)
        clear e0 e1 e2 e3 e4 hB1 hB f0
        go_wp2
        go_loopw [4] (fun i wq => ∃ m : Nat, m ≤ k ∧ i = .int .i64 m ∧ Same (placeFrom (xs.take k) xs[k].object_ m) (placeC (xs.take k) xs[k].object_) ∧ Below w.heap.size w wq) (fun i _ => k - (intOf i).toNat)
        case atStart => exact ⟨0, by omega, rfl, .rfl, hB2⟩
        case round =>
          clear hB2
          obtain ⟨m, hmk, rfl, hP, hB2⟩ := hrel
          by_cases hlt2 : m < k
          · have hml : m < xs.length := by omega
            have f0 := (hB2.cell (p := ⟨bb, off + k * 5, none⟩) hbs).trans (HC.out k hlt |> fun ⟨_, _, q, _, c, _⟩ => by cases q; exact c)
            have g0 := (hB2.cell (p := ⟨bb, off + m * 5, none⟩) hbs).trans (HC.out m hml |> fun ⟨_, _, q, _, c, _⟩ => by cases q; exact c)
            have hmt : m < (xs.take k).length := by simp; omega
            have hget : (xs.take k)[m] = xs[m] := by simp
            have hst2 := hid (placeFrom_step (xs.take k) xs[k].object_ m hmt)
            rw [hget] at hst2
            clear hget
            by_cases heq : xs[m].object_ = xs[k].object_
            · have Hn := hid (openOk_of_bad k hS.out (by
                rw [hst.out, hE, ← hP.out, hst2.out, if_pos heq, decide_eq_false (by omega)]; rfl))
              go_wp2
              go_quiet (fail)
              go_wp2
              go_ret
              exact ⟨ret_bool Hn.out.symm, below_drewN hB2 _⟩
            · go_wp2
              go_quiet (fail)
              go_wp2
              go_roundw
              case rel => exact ⟨m+1, by omega, by go_num, Same.mk (by have h9 := hst2.out; rw [if_neg heq] at h9; rw [← h9]; exact hP.out), below_drewN hB2 _⟩
              case measure => simp [intOf]; omega
          · have Hp := hid (show placeC (xs.take k) xs[k].object_ < 0 by
              rw [← hP.out, placeFrom_end _ _ _ (by simp; omega)]; omega)
            go_wp2
            go_roundw
            case rel => exact ⟨k+1, by omega, by go_num, Same.mk (by rw [hS.out, hst.out, hE, decide_eq_true Hp.out]; rfl), hB2⟩
            case measure => simp [intOf]; omega
    · have Hy := hid (show openOk xs = decide (xs.length ≤ 6) by unfold openOk; rw [hS.out, openAt_end xs k hlt, Bool.and_true])
      by_cases h6 : (xs.length : Int) ≤ 6
      · go_wp2
        go_ret
        exact ⟨ret_bool (by rw [Hy.out, decide_eq_true (by omega : xs.length ≤ 6)]), hB⟩
      · go_wp2
        go_ret
        exact ⟨ret_bool (by rw [Hy.out, decide_eq_false (by omega : ¬ xs.length ≤ 6)]), hB⟩
set_option maxHeartbeats 8000000 in
theorem spec_Opened0 (v : Value) (xs : List Entry) (o : Int) (w : World) (h : Entrys w v xs) :
    Calls Tryz.prog 239 #[v, .int .i64 o] w fun e w' => e = .returned (.int .i64 (openedC xs o)) ∧ Below w.heap.size w w' := by
  have h0 := h
  obtain ⟨ad, cap, rfl, hl, hm, hc⟩ := h.open
  clear h
  have hlen : xs.length ≤ 9223372036854775807 := by omega
  have HC := hid hc
  clear hc
  cases hO : openOk xs with
  | false =>
    have Hn := hid (show openedC xs o = -1 by unfold openedC; rw [hO]; rfl)
    go_enter Tryz.func239, Tryz.ntmps239
    go_wp2
    go_loopw [5] (fun i wr => i = .int .i64 0 ∧ Below w.heap.size w wr) (fun i _ => xs.length - (intOf i).toNat)
    case atStart => exact ⟨rfl, Below.refl _ _⟩
    case round =>
      obtain ⟨rfl, hB⟩ := hrel
      by_cases hlt : (0 : Int) < (xs.length : Int)
      · have h1 := Entrys.below h0 hB
        go_wp2_with fail
        refine (spec_OpenOk _ xs _ h1).mono ?_
        rintro e w2 ⟨rfl, hB1⟩
        rw [hO]
        have hB2 := hB.trans (hB1.mono hB.size)
        go_wp2
        go_ret
        exact ⟨ret_int Hn.out.symm, hB2⟩
      · go_wp2
        go_ret
        exact ⟨ret_int Hn.out.symm, hB⟩
  | true =>
    have Hy := hid (show openedC xs o = placeC xs o by unfold openedC; rw [hO]; rfl)
    go_enter Tryz.func239, Tryz.ntmps239
    go_wp2
    go_loopw [5] (fun i wr => ∃ k : Nat, k ≤ xs.length ∧ i = .int .i64 k ∧ Same (placeFrom xs o k) (placeC xs o) ∧ Below w.heap.size w wr) (fun i _ => xs.length - (intOf i).toNat)
    case atStart => exact ⟨0, by omega, rfl, .rfl, Below.refl _ _⟩
    case round =>
      obtain ⟨k, hk, rfl, hS, hB⟩ := hrel
      by_cases hlt : k < xs.length
      · have h1 := Entrys.below h0 hB
        have hst := hid (placeFrom_step xs o k hlt)
        go_wp2_with fail
        refine (spec_OpenOk _ xs _ h1).mono ?_
        rintro e w2 ⟨rfl, hB1⟩
        rw [hO]
        have hB2 := hB.trans (hB1.mono hB.size)
        obtain ⟨bb, off, rfl, hbs, c0, -⟩ := HC.out k hlt
        have g0 := (hB2.cell (p := ⟨bb, off + k * 5, none⟩) hbs).trans c0
        clear c0 HC h0 h1
        by_cases heq : xs[k].object_ = o
        · go_wp2
          go_ret
          exact ⟨ret_int (by rw [Hy.out, ← hS.out, hst.out, if_pos heq]), hB2⟩
        · go_wp2
          go_roundw
          case rel => exact ⟨k+1, by omega, by go_num, Same.mk (by have h9 := hst.out; rw [if_neg heq] at h9; rw [← h9]; exact hS.out), hB2⟩
          case measure => simp [intOf]; omega
      · have He := hid (placeFrom_end xs o k hlt)
        go_wp2
        go_ret
        exact ⟨ret_int (by rw [Hy.out, ← hS.out, He.out]), hB⟩
set_option maxHeartbeats 2000000 in
theorem spec_l6Copy (v : Value) (xs : List Entry) (w : World) (h : Entrys w v xs) (hx : xs.length ≤ 1048576) :
    Calls Tryz.prog 152 #[v] w fun e w' => ∃ v', e = .returned v' ∧ w'.ownsRow w.heap.size 123 5 v' xs.length (xs.flatMap Entry.enc) ∧ Below w.heap.size w w' := by
  obtain ⟨i0, hi, hz0, hz1, hz2⟩ := info_parts infoEntry
  have hone := hid (oneCell_enc (f := Entry.enc) (by intro x c hc; simp [Entry.enc] at hc; rcases hc with rfl | rfl | rfl | rfl | rfl <;> rfl) xs)
  obtain ⟨ad, cap, rfl, hl, hm⟩ := Flat.form h
  have hown : (w.alloc (.cells #[] 123)).ownsRow w.heap.size 123 5 (.slice (some ⟨w.heap.size, 0, none⟩) 0 0) 0 [] := World.ownsRow_made _ _ _ (Nat.le_refl _) (Nat.zero_le _) rfl
  have hB : Below w.heap.size w (w.alloc (.cells #[] 123)) := (Below.refl _ _).alloc (Nat.le_refl _) _
  have h2 := Flat.below h hB
  go_enter Tryz.func152, Tryz.ntmps152
  go_wp2_with (at_builtin; refine wpList_append_flat rfl _ _ 48 rfl w.heap.size 123 i0 (.agg #[.int .i64 0, .int .i64 0, .int .i64 0, .int .i64 0, .bool false]) 5 40 Tryz.underlying48 hi hz0 hz1 hz2 rfl (by decide) _ _ _ rfl hown _ _ _ rfl h2 hone.out (by unfold maxLen; omega) (by omega) (by simp) ?_)
  intro v' w1 ho hg
  have hB1 := hB.trans (below_of_mark hown hg (Nat.le_refl _) (by simp))
  go_wp2
  go_ret
  exact ⟨_, rfl, by simpa using ho, hB1⟩
end Go.Proofs.YtbbdchlabdilcaaGreat
