/- Chapter 8: what helping does to a store and a stack. -/
import Derived.Test.YtbbdchlabdilcabGreatM2
namespace Go.Proofs.YtbbdchlabdilcabGreat
set_option maxRecDepth 100000
open Go.RowKit Go.Proofs Go.Own
/-- A frame that may stand in a stack. -/
def stkIn (hs : List Head) (ds : List DescD) (f : Frame) : Bool := !decide (f.phase_ = 5) && frameOk hs ds f
def stackOk (hs : List Head) (ds : List DescD) (st : List Frame) : Bool := storeOk hs ds && decide (st.length ≤ 130) && st.all (stkIn hs ds)
/-- One step of a stack: its topmost frame is driven. -/
def topF (st : List Frame) : Frame := match st[st.length - 1]? with | some f => f | none => ⟨0, 0, 0⟩
theorem topF_eq {st : List Frame} (h : st.length - 1 < st.length) : topF st = st[st.length - 1] := by unfold topF; rw [List.getElem?_eq_getElem h]
structure HS where
  hs : List Head
  ds : List DescD
  st : List Frame
def helpSt (hs : List Head) (ds : List DescD) (st : List Frame) : List Frame :=
  if 0 ≤ stepN hs ds (topF st) then (if st.length = 130 then st else st.take (st.length - 1) ++ [stepF hs ds (topF st)] ++ [⟨stepN hs ds (topF st), 0, 0⟩])
  else if (stepF hs ds (topF st)).phase_ = 5 then st.take (st.length - 1) else st.take (st.length - 1) ++ [stepF hs ds (topF st)]
def helpR (x : HS) : HS := if x.st.length = 0 then x else ⟨stepH x.hs x.ds (topF x.st), stepD x.ds (topF x.st), helpSt x.hs x.ds x.st⟩
theorem helpR_nil {x : HS} (h : x.st.length = 0) : helpR x = x := if_pos h
theorem helpR_cons {x : HS} (h : ¬ x.st.length = 0) : helpR x = ⟨stepH x.hs x.ds (topF x.st), stepD x.ds (topF x.st), helpSt x.hs x.ds x.st⟩ := if_neg h
/-- A store and a stack that are right. -/
def HS.ok (x : HS) : Prop := stackOk x.hs x.ds x.st = true
theorem stackOk_iff {hs : List Head} {ds : List DescD} {st : List Frame} : stackOk hs ds st = true ↔ storeOk hs ds = true ∧ st.length ≤ 130 ∧ ∀ f ∈ st, f.phase_ ≠ 5 ∧ frameOk hs ds f = true := by
  unfold stackOk stkIn
  simp [List.all_eq_true, and_assoc]
theorem storeOk_iff {hs : List Head} {ds : List DescD} : storeOk hs ds = true ↔ (1 ≤ hs.length ∧ hs.length ≤ 8) ∧ ds.length ≤ 60 ∧ (∀ i, (hi : i < ds.length) → descIn hs.length ds[i] = true) ∧ ∀ i, (hi : i < hs.length) → headIn ds i hs[i] = true := by
  refine ⟨storeOk_all, fun ⟨h1, h2, h3, h4⟩ => ?_⟩
  unfold storeOk
  have hl : inB (hs.length : Int) 1 8 = true := by simp [inB]; omega
  have ha : ds.all (descIn hs.length) = true := List.all_eq_true.2 fun d hd => by obtain ⟨i, hi, rfl⟩ := List.getElem_of_mem hd; exact h3 i hi
  have hh : ∀ (d k : Nat), hs.length - k = d → headsAt ds hs k = true := by
    intro d
    induction d with
    | zero => intro k hk; exact headsAt_end ds hs k (by omega)
    | succ d ih => intro k hk; rw [headsAt_step ds hs k (by omega), h4 k (by omega), ih (k+1) (by omega)]; rfl
  rw [hl, ha, hh _ 0 rfl]
  simp; omega
/-- What a step leaves alone of a descriptor. -/
theorem stepD_get (ds : List DescD) (f : Frame) (i : Nat) (hi : i < ds.length) : ∃ st : Int, (st = ds[i].status_ ∨ st = 1 ∨ st = 2) ∧ (stepD ds f)[i]'(by rw [stepD_len]; exact hi) = ⟨ds[i].owner_, st, ds[i].entries_⟩ := by
  have key : ∀ s : Int, (s = 1 ∨ s = 2) → ∃ st : Int, (st = ds[i].status_ ∨ st = 1 ∨ st = 2) ∧ (ds.set f.desc_.toNat (decD s (dAt ds f.desc_)))[i]'(by rw [List.length_set]; exact hi) = ⟨ds[i].owner_, st, ds[i].entries_⟩ := fun s hs => by
    by_cases e : f.desc_.toNat = i
    · have e2 : dAt ds f.desc_ = ds[i] := by unfold dAt; rw [e, List.getElem?_eq_getElem hi]
      subst e
      simp only [List.getElem_set_self, e2]
      unfold decD
      split
      · exact ⟨s, by rcases hs with h | h <;> simp [h], rfl⟩
      · exact ⟨_, .inl rfl, rfl⟩
    · simp only [List.getElem_set_ne e]
      exact ⟨_, .inl rfl, rfl⟩
  by_cases h2 : f.phase_ = 2
  · have e : stepD ds f = ds.set f.desc_.toNat (decD 1 (dAt ds f.desc_)) := by unfold stepD; rw [if_pos h2]
    simp only [e]
    exact key 1 (.inl rfl)
  · by_cases h3 : f.phase_ = 3
    · have e : stepD ds f = ds.set f.desc_.toNat (decD 2 (dAt ds f.desc_)) := by unfold stepD; rw [if_neg h2, if_pos h3]
      simp only [e]
      exact key 2 (.inr rfl)
    · have e : stepD ds f = ds := by unfold stepD; rw [if_neg h2, if_neg h3]
      simp only [e]
      exact ⟨_, .inl rfl, rfl⟩
theorem stepD_ents (ds : List DescD) (f : Frame) (k : Int) : entsAt (stepD ds f) k = entsAt ds k := by
  unfold entsAt
  by_cases hk : k.toNat < ds.length
  · obtain ⟨st, -, e⟩ := stepD_get ds f k.toNat hk
    rw [List.getElem?_eq_getElem (by rw [stepD_len]; exact hk), List.getElem?_eq_getElem hk, e]
  · rw [List.getElem?_eq_none (by rw [stepD_len]; omega), List.getElem?_eq_none (by omega)]
theorem descIn_stat {n : Nat} {d : DescD} (h : descIn n d = true) (st : Int) (hs : st = d.status_ ∨ st = 1 ∨ st = 2) : descIn n ⟨d.owner_, st, d.entries_⟩ = true := by
  unfold descIn at h ⊢
  simp only [Bool.and_eq_true] at h ⊢
  refine ⟨?_, h.2⟩
  have h1 := h.1
  unfold descOk at h1 ⊢
  simp only [Bool.and_eq_true] at h1 ⊢
  obtain ⟨⟨⟨⟨a1, a2⟩, a3⟩, a4⟩, a5⟩ := h1
  refine ⟨⟨⟨⟨a1, ?_⟩, a3⟩, a4⟩, a5⟩
  rcases hs with rfl | rfl | rfl
  · exact a2
  · decide
  · decide
theorem headIn_ds {ds ds' : List DescD} {i : Nat} {h : Head} (hl : ds'.length = ds.length) (he : ∀ k, entsAt ds' k = entsAt ds k) : headIn ds' i h = headIn ds i h := by
  unfold headIn; rw [hl, he]
theorem frameOk_ds {hs hs' : List Head} {ds ds' : List DescD} {f : Frame} (h1 : storeOk hs ds = true) (h2 : storeOk hs' ds' = true) (hl : ds'.length = ds.length) (he : ∀ k, entsAt ds' k = entsAt ds k) : frameOk hs' ds' f = frameOk hs ds f := by
  unfold frameOk; rw [h1, h2, hl, he]
/-- The heads behind a step: at most the one at hand has changed. -/
theorem stepH_get {hs : List Head} {ds : List DescD} {f : Frame} (h : frameOk hs ds f = true) (i : Nat) (hi : i < hs.length) : headIn ds i ((stepH hs ds f)[i]'(by rw [stepH_len]; exact hi)) = true := by
  obtain ⟨hst, k, hk, hkl, -, a, ha, hal, -⟩ := frameOk_parts h
  rw [entsAt_eq hkl] at hal
  obtain ⟨o, ho, hol⟩ := cur_obj hst hkl hal
  have hE : curE ds f = ds[k].entries_[a] := by unfold curE; rw [hk, ha, entsAt_eq hkl, eAt_eq hal]
  have hO : curO ds f = o := by unfold curO; rw [hE]; exact ho
  have hH : curH hs ds f = hs[o] := by unfold curH; rw [hO]; exact hAt_eq hol
  have hin := (storeOk_all hst).2.2.2 i hi
  have hd := (storeOk_all hst).2.2.1 k hkl
  rw [descIn_is] at hd
  simp only [Bool.and_eq_true] at hd
  have hop := descOk_open hd.1
  have heo := entryOk_iff.1 (openOk_at hop a hal).1
  have key : ∀ h' : Head, (o = i → headIn ds i h' = true) → headIn ds i ((hs.set o h')[i]'(by rw [List.length_set]; exact hi)) = true := fun h' hh => by
    by_cases e : o = i
    · subst e; simp only [List.getElem_set_self]; exact hh rfl
    · simp only [List.getElem_set_ne e]; exact hin
  by_cases h1 : f.phase_ = 1
  · by_cases hc : ¬ (curH hs ds f).desc_ = f.desc_ ∧ ¬ 0 ≤ (curH hs ds f).desc_ ∧ (curH hs ds f).version_ = (curE ds f).version_
    · have e : stepH hs ds f = hs.set o (layH f.desc_ hs[o]) := by unfold stepH; rw [if_pos h1, if_pos hc, hO, hH, Int.toNat_natCast]
      simp only [e]
      refine key _ fun e9 => ?_
      subst e9
      have h9 := hin
      unfold headIn at h9 ⊢
      simp only [Bool.and_eq_true] at h9 ⊢
      have hp : 0 ≤ openedC (entsAt ds f.desc_) o := by
        rw [hk, entsAt_eq hkl]
        unfold openedC
        rw [hop, if_pos rfl]
        unfold placeC
        have hf : ∀ (xs : List Entry) (j c : Nat) (hj : j < xs.length), xs[j].object_ = (o : Int) → 0 ≤ findO xs (o : Int) c := by
          intro xs
          induction xs with
          | nil => intro j c hj; simp at hj
          | cons x xs ih =>
            intro j c hj he
            unfold findO
            split
            · omega
            · rename_i hne
              cases j with
              | zero => exact absurd he hne
              | succ j => exact ih j (c+1) (by simpa using hj) (by simpa using he)
        exact hf _ a 0 hal ho
      refine ⟨⟨h9.1.1, ?_⟩, ?_⟩
      · show inB f.desc_ _ _ = true
        rw [hk]; simp [inB]; omega
      · show (!(decide (0 ≤ f.desc_) && decide (openedC (entsAt ds f.desc_) o < 0))) = true
        rw [decide_eq_false (show ¬ openedC (entsAt ds f.desc_) o < 0 by omega), Bool.and_false]
        rfl
    · have e : stepH hs ds f = hs := by unfold stepH; rw [if_pos h1, if_neg hc]
      simp only [e]; exact hin
  · by_cases h4 : f.phase_ = 4
    · by_cases hc : (curH hs ds f).desc_ = f.desc_
      · have e : stepH hs ds f = hs.set o (freeH (dAt ds f.desc_).status_ ds[k].entries_[a] hs[o]) := by unfold stepH; rw [if_neg h1, if_pos h4, if_pos hc, hO, hH, hE, Int.toNat_natCast]
        simp only [e]
        refine key _ fun e9 => ?_
        subst e9
        have h9 := hin
        unfold headIn at h9 ⊢
        simp only [Bool.and_eq_true] at h9 ⊢
        have hv : 0 ≤ hs[o].version_ ∧ hs[o].version_ ≤ 1000000 := by simpa [inB] using h9.1.1.2
        unfold freeH
        split
        · refine ⟨⟨⟨?_, ?_⟩, ?_⟩, ?_⟩
          · have := heo.2.2.2.1; simp [isVal, inB]; omega
          · have := Int.emod_nonneg (hs[o].version_ + 1) (show (1000001 : Int) ≠ 0 by decide)
            have := Int.emod_lt_of_pos (hs[o].version_ + 1) (show (0 : Int) < 1000001 by decide)
            simp [inB]; omega
          · simp [inB]; omega
          · simp
        · refine ⟨⟨h9.1.1, ?_⟩, ?_⟩
          · simp [inB]; omega
          · simp
      · have e : stepH hs ds f = hs := by unfold stepH; rw [if_neg h1, if_pos h4, if_neg hc]
        simp only [e]; exact hin
    · have e : stepH hs ds f = hs := by unfold stepH; rw [if_neg h1, if_neg h4]
      simp only [e]; exact hin
/-- A step leaves a store right. -/
theorem step_storeOk {hs : List Head} {ds : List DescD} {f : Frame} (h : frameOk hs ds f = true) : storeOk (stepH hs ds f) (stepD ds f) = true := by
  have hst := (frameOk_parts h).1
  obtain ⟨h1, h2, h3, -⟩ := storeOk_all hst
  refine storeOk_iff.2 ⟨by rw [stepH_len]; exact h1, by rw [stepD_len]; exact h2, fun i hi => ?_, fun i hi => ?_⟩
  · rw [stepD_len] at hi
    obtain ⟨st, hs9, e⟩ := stepD_get ds f i hi
    rw [e, stepH_len]
    exact descIn_stat (h3 i hi) st hs9
  · rw [stepH_len] at hi
    rw [headIn_ds (stepD_len ds f) (stepD_ents ds f)]
    exact stepH_get h i hi
/-- The frame behind a step is right. -/
theorem step_frameOk {hs : List Head} {ds : List DescD} {f : Frame} (h : frameOk hs ds f = true) : frameOk (stepH hs ds f) (stepD ds f) (stepF hs ds f) = true := by
  rw [frameOk_ds (frameOk_parts h).1 (step_storeOk h) (stepD_len ds f) (stepD_ents ds f)]
  obtain ⟨hst, k, hk, hkl, hp, a, ha, hal, hat⟩ := frameOk_parts h
  have hl : 0 < (entsAt ds k).length := by omega
  have mk : ∀ p at_ : Int, 0 ≤ p → p ≤ 5 → (p = 1 ∨ p = 4 → 0 ≤ at_ ∧ at_ < ((entsAt ds k).length : Int)) → (¬ (p = 1 ∨ p = 4) → at_ = 0) → frameOk hs ds ⟨f.desc_, p, at_⟩ = true := fun p at_ p0 p5 q1 q2 => by
    unfold frameOk
    rw [hst, hk]
    have i1 : inB (k : Int) 0 ((ds.length : Int) - 1) = true := by simp [inB]; omega
    have i2 : inB p 0 5 = true := by simp [inB]; omega
    simp only [i1, i2, Bool.and_true, Bool.true_and]
    split
    · rename_i hq; have := q1 hq; simp [inB]; omega
    · rename_i hq; rw [q2 hq]; rfl
  have nx : ∀ b : Int, (b = 2 ∨ b = 5) → (f.phase_ = 1 ∨ f.phase_ = 4) → frameOk hs ds (nextF ds f b) = true := fun b hb hph => by
    unfold nextF
    rw [hk, ha]
    split
    · rename_i hlt
      rw [← hk]
      exact mk _ _ hp.1 hp.2 (fun _ => ⟨by omega, hlt⟩) (fun hn => absurd hph hn)
    · rw [← hk]
      exact mk _ _ (by omega) (by omega) (fun hn => by omega) (fun _ => rfl)
  unfold stepF
  split
  · split
    · exact mk _ _ (by omega) (by omega) (fun _ => ⟨by omega, by omega⟩) (fun hn => by omega)
    · exact mk _ _ (by omega) (by omega) (fun _ => ⟨by omega, by omega⟩) (fun hn => by omega)
  · split
    · rename_i h1
      split
      · exact nx 2 (.inl rfl) (.inl h1)
      · split
        · exact mk _ _ (by omega) (by omega) (fun hn => by omega) (fun _ => rfl)
        · split
          · exact nx 2 (.inl rfl) (.inl h1)
          · exact mk _ _ (by omega) (by omega) (fun hn => by omega) (fun _ => rfl)
    · split
      · exact mk _ _ (by omega) (by omega) (fun _ => ⟨by omega, by omega⟩) (fun hn => by omega)
      · split
        · rename_i h4
          exact nx 5 (.inr rfl) (.inr h4)
        · exact h
/-- Who must be driven first is a descriptor. -/
theorem stepN_lt {hs : List Head} {ds : List DescD} {f : Frame} (h : frameOk hs ds f = true) : -1 ≤ stepN hs ds f ∧ stepN hs ds f < (ds.length : Int) := by
  obtain ⟨hst, k, hk, hkl, -, a, ha, hal, -⟩ := frameOk_parts h
  unfold stepN
  split
  · rename_i hc
    rw [entsAt_eq hkl] at hal
    obtain ⟨o, ho, hol⟩ := cur_obj hst hkl hal
    have hE : curE ds f = ds[k].entries_[a] := by unfold curE; rw [hk, ha, entsAt_eq hkl, eAt_eq hal]
    have hO : curO ds f = o := by unfold curO; rw [hE]; exact ho
    have hH : curH hs ds f = hs[o] := by unfold curH; rw [hO]; exact hAt_eq hol
    have h9 := (head_in hst hol).2
    rw [hH]; omega
  · omega
theorem newFrame_ok {hs : List Head} {ds : List DescD} {n : Int} (h : storeOk hs ds = true) (h0 : 0 ≤ n) (h1 : n < (ds.length : Int)) : frameOk hs ds ⟨n, 0, 0⟩ = true := by
  unfold frameOk
  rw [h]
  simp [inB]; omega
/-- Where a descriptor is told, the frame is in its first phase. -/
theorem stepF_told {hs : List Head} {ds : List DescD} {f : Frame} (h : 0 ≤ stepN hs ds f) : stepF hs ds f = ⟨f.desc_, 0, 0⟩ := by
  unfold stepN at h
  split at h
  · rename_i hc
    unfold stepF
    rw [if_neg (by omega), if_pos hc.1, if_neg hc.2.1, if_pos hc.2.2]
  · omega
theorem stepH_told {hs : List Head} {ds : List DescD} {f : Frame} (h : 0 ≤ stepN hs ds f) : stepH hs ds f = hs ∧ stepD ds f = ds := by
  unfold stepN at h
  split at h
  · rename_i hc
    refine ⟨?_, ?_⟩
    · unfold stepH; rw [if_pos hc.1, if_neg (fun h9 => h9.2.1 hc.2.2)]
    · unfold stepD; rw [if_neg (by omega), if_neg (by omega)]
  · omega
theorem top_mem {st : List Frame} (h : ¬ st.length = 0) : topF st ∈ st := by
  rw [topF_eq (by omega)]; exact List.getElem_mem _
/-- A step of a stack leaves the store and the stack right; and any other stack. -/
theorem help_other {x : HS} (h : x.ok) {st : List Frame} (h2 : stackOk x.hs x.ds st = true) : stackOk (helpR x).hs (helpR x).ds st = true := by
  by_cases hz : x.st.length = 0
  · rw [helpR_nil hz]; exact h2
  · rw [helpR_cons hz]
    have hf := ((stackOk_iff.1 h).2.2 _ (top_mem hz)).2
    obtain ⟨a1, a2, a3⟩ := stackOk_iff.1 h2
    have hso := step_storeOk hf
    exact stackOk_iff.2 ⟨hso, a2, fun f hm => ⟨(a3 f hm).1, by rw [frameOk_ds a1 hso (stepD_len _ _) (stepD_ents _ _)]; exact (a3 f hm).2⟩⟩
theorem help_ok {x : HS} (h : x.ok) : (helpR x).ok := by
  by_cases hz : x.st.length = 0
  · rw [helpR_nil hz]; exact h
  · obtain ⟨a1, a2, a3⟩ := stackOk_iff.1 h
    have ho := help_other h h
    have hf := (a3 _ (top_mem hz)).2
    rw [helpR_cons hz] at ho ⊢
    obtain ⟨b1, b2, b3⟩ := stackOk_iff.1 ho
    have htk : ∀ f ∈ x.st.take (x.st.length - 1), f.phase_ ≠ 5 ∧ frameOk (stepH x.hs x.ds (topF x.st)) (stepD x.ds (topF x.st)) f = true := fun f hm => b3 f (List.mem_of_mem_take hm)
    have htl : (x.st.take (x.st.length - 1)).length = x.st.length - 1 := by simp
    have hfo := step_frameOk hf
    show stackOk _ _ (helpSt x.hs x.ds x.st) = true
    refine stackOk_iff.2 ⟨b1, ?_, ?_⟩
    · unfold helpSt
      split
      · split
        · exact b2
        · simp only [List.length_append, htl, List.length_singleton]; omega
      · split
        · omega
        · simp only [List.length_append, htl, List.length_singleton]; omega
    · unfold helpSt
      split
      · rename_i hn
        split
        · exact b3
        · intro f hm
          simp only [List.mem_append, List.mem_singleton] at hm
          rcases hm with (hm | rfl) | rfl
          · exact htk f hm
          · exact ⟨by rw [stepF_told hn]; simp, hfo⟩
          · refine ⟨by simp, newFrame_ok b1 hn ?_⟩
            rw [stepD_len]; exact (stepN_lt hf).2
      · split
        · exact htk
        · rename_i h5
          intro f hm
          simp only [List.mem_append, List.mem_singleton] at hm
          rcases hm with hm | rfl
          · exact htk f hm
          · exact ⟨h5, hfo⟩
theorem help_len (x : HS) : (helpR x).hs.length = x.hs.length ∧ (helpR x).ds.length = x.ds.length ∧ ∀ k, entsAt (helpR x).ds k = entsAt x.ds k := by
  by_cases hz : x.st.length = 0
  · rw [helpR_nil hz]; exact ⟨rfl, rfl, fun _ => rfl⟩
  · rw [helpR_cons hz]; exact ⟨stepH_len _ _ _, stepD_len _ _, stepD_ents _ _⟩
end Go.Proofs.YtbbdchlabdilcabGreat
