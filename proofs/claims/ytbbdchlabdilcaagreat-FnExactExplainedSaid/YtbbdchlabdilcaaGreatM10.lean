/- Chapter 11: what its functions answer. -/
import Derived.Test.YtbbdchlabdilcaaGreatF10
import Derived.Test.YtbbdchlabdilcaaGreatN11w
import Derived.Test.YtbbdchlabdilcaaGreatM3
import Derived.Test.YtbbdchlabdilcaaGreatM7
import Derived.StillTailTactics
import Derived.Test.YtbbdchlabdilcaaGreatM6
namespace Go.Proofs.YtbbdchlabdilcaaGreat
set_option maxRecDepth 100000
open Go.RowKit Go.Proofs Go.Own
/-- An event of a log, over n objects, m descriptors, k threads. -/
def evOk (n m k : Nat) (e : Event) : Bool :=
  (inB e.kind_ 1 6 && inB e.thread_ 0 ((k : Int) - 1)) && ((!(e.kind_ == 1) || (inB e.object_ 0 ((n : Int) - 1) && isVal e.value_)) && (!(e.kind_ == 3) || inB e.object_ 0 ((m : Int) - 1)))
/-- How often descriptor i is told to be committed. -/
def cntEv (xs : List Event) (i : Nat) : Nat := xs.countP fun e => e.kind_ == 3 && e.object_ == (i : Int)
def cntRow (xs : List Event) (j m : Nat) : List Int := (List.range m).map fun i : Nat => (cntEv (xs.take j) i : Int)
theorem cntRow_len (xs : List Event) (j m : Nat) : (cntRow xs j m).length = m := by simp [cntRow]
theorem cntRow_get (xs : List Event) (j m i : Nat) (h : i < m) : (cntRow xs j m)[i]'(by rw [cntRow_len]; exact h) = (cntEv (xs.take j) i : Int) := by simp [cntRow]
theorem cntEv_le (xs : List Event) (i : Nat) : cntEv xs i ≤ xs.length := List.countP_le_length
theorem cntEv_step (xs : List Event) (j : Nat) (h : j < xs.length) (i : Nat) : cntEv (xs.take (j+1)) i = cntEv (xs.take j) i + (if xs[j].kind_ == 3 && xs[j].object_ == (i : Int) then 1 else 0) := by
  unfold cntEv
  rw [List.take_succ_eq_append_getElem h, List.countP_append, List.countP_singleton]
theorem cntRow_same (xs : List Event) (j m : Nat) (h : j < xs.length) (hk : (xs[j].kind_ == 3) = false) : cntRow xs (j+1) m = cntRow xs j m := by
  apply List.ext_getElem (by rw [cntRow_len, cntRow_len])
  intro t h1 h2
  have ht : t < m := by rw [cntRow_len] at h2; exact h2
  rw [cntRow_get _ _ _ _ ht, cntRow_get _ _ _ _ ht, cntEv_step xs j h, hk]
  simp
theorem cntRow_set (xs : List Event) (j m o : Nat) (h : j < xs.length) (hk : xs[j].kind_ = 3) (ho : xs[j].object_ = (o : Int)) : (cntRow xs j m).set o ((cntEv (xs.take j) o : Int) + 1) = cntRow xs (j+1) m := by
  apply List.ext_getElem (by rw [List.length_set, cntRow_len, cntRow_len])
  intro t h1 h2
  have ht : t < m := by rw [cntRow_len] at h2; exact h2
  rw [cntRow_get _ _ _ _ ht, cntEv_step xs j h, hk, ho]
  by_cases e : o = t
  · subst e; rw [List.getElem_set_self]; simp
  · rw [List.getElem_set_ne e, cntRow_get _ _ _ _ ht, if_neg (by simp; omega)]; simp
theorem cntRow_zero (xs : List Event) (m : Nat) : cntRow xs 0 m = List.replicate m 0 := by
  apply List.ext_getElem (by rw [cntRow_len, List.length_replicate])
  intro t h1 h2
  have ht : t < m := by rw [cntRow_len] at h1; exact h1
  rw [cntRow_get _ _ _ _ ht, List.getElem_replicate]
  simp [cntEv]
/-- Descriptor q is told to be committed once where it is, else never. -/
def cntAt (xs : List Event) (ds : List DescD) (q : Nat) : Bool := match ds[q]? with | some d => (cntEv xs q : Int) == (if d.status_ == 1 then 1 else 0) | none => true
theorem cntAt_of (xs : List Event) (ds : List DescD) (q : Nat) (h : q < ds.length) : cntAt xs ds q = ((cntEv xs q : Int) == (if ds[q].status_ == 1 then 1 else 0)) := by
  unfold cntAt
  rw [List.getElem?_eq_getElem h]
def logOk (xs : List Event) (ds : List DescD) (n k : Nat) : Bool := xs.all (evOk n ds.length k) && (List.range ds.length).all (cntAt xs ds) && decide ((xs.length : Int) ≤ 3000)
/-- Threads in their places, each right. -/
def thAt (d : WorldD) (q : Nat) : Bool := match d.threads_[q]? with | some t => t.id_ == (q : Int) && threadOk d.store_ t | none => true
theorem thAt_of (d : WorldD) (q : Nat) (h : q < d.threads_.length) : thAt d q = (d.threads_[q].id_ == (q : Int) && threadOk d.store_ d.threads_[q]) := by
  unfold thAt
  rw [List.getElem?_eq_getElem h]
def ownIn (k : Nat) (d : DescD) : Bool := decide (d.owner_ < (k : Int))
def partsOk (d : WorldD) : Bool := (storeOk d.store_.heads_ d.store_.descs_ && ((d.first_.length : Int) == d.store_.heads_.length)) && (allIn d.first_ (-1000000000) 1000000000 0 && inB (d.threads_.length : Int) 1 4)
def worldOk (d : WorldD) : Bool := partsOk d && ((List.range d.threads_.length).all (thAt d) && (d.store_.descs_.all (ownIn d.threads_.length) && logOk d.log_ d.store_.descs_ d.first_.length d.threads_.length))
theorem all_false {α : Type} (f : α → Bool) (xs : List α) (k : Nat) (h : k < xs.length) (hf : f xs[k] = false) : xs.all f = false := by
  rw [List.all_eq_false]
  exact ⟨xs[k], List.getElem_mem h, by rw [hf]; simp⟩
end Go.Proofs.YtbbdchlabdilcaaGreat
/- Chapter 12: what its functions answer. -/
namespace Go.Proofs.YtbbdchlabdilcaaGreat
set_option maxRecDepth 100000
open Go.RowKit Go.Proofs Go.Own
/-- The values behind the first k events. -/
def stateN (fs : List Int) (ds : List DescD) (lg : List Event) : Nat → List Int
  | 0 => fs
  | k+1 => match lg[k]? with
    | some e => if e.kind_ = 3 then doL (stateN fs ds lg k) (entsAt ds e.object_) else stateN fs ds lg k
    | none => stateN fs ds lg k
theorem stateN_com {fs : List Int} {ds : List DescD} {lg : List Event} {k : Nat} (h : k < lg.length) (hk : lg[k].kind_ = 3) : stateN fs ds lg (k+1) = doL (stateN fs ds lg k) (entsAt ds lg[k].object_) := by
  conv => lhs; unfold stateN
  rw [List.getElem?_eq_getElem h]
  exact if_pos hk
theorem stateN_not {fs : List Int} {ds : List DescD} {lg : List Event} {k : Nat} (h : k < lg.length) (hk : ¬ lg[k].kind_ = 3) : stateN fs ds lg (k+1) = stateN fs ds lg k := by
  conv => lhs; unfold stateN
  rw [List.getElem?_eq_getElem h]
  exact if_neg hk
theorem stateN_len (fs : List Int) (ds : List DescD) (lg : List Event) : ∀ k, (stateN fs ds lg k).length = fs.length
  | 0 => rfl
  | k+1 => by
    unfold stateN
    split
    · split
      · rw [doL_len, stateN_len fs ds lg k]
      · exact stateN_len fs ds lg k
    · exact stateN_len fs ds lg k
def placeOk12 (d : WorldD) (p : Int) : Bool := worldOk d && inB p 0 d.log_.length
def stateC (d : WorldD) (p : Int) : List Int := if placeOk12 d p = true then stateN d.first_ d.store_.descs_ d.log_ p.toNat else []
/-- The descriptors of the commits among the first k events. -/
def comsTo (lg : List Event) (k : Nat) : List Int := (lg.take k).filterMap fun e => if e.kind_ = 3 then some e.object_ else none
theorem comsTo_yes {lg : List Event} {k : Nat} (h : k < lg.length) (hk : lg[k].kind_ = 3) : comsTo lg (k+1) = comsTo lg k ++ [lg[k].object_] := by
  unfold comsTo
  rw [List.take_succ_eq_append_getElem h, List.filterMap_append]
  simp [hk]
theorem comsTo_no {lg : List Event} {k : Nat} (h : k < lg.length) (hk : ¬ lg[k].kind_ = 3) : comsTo lg (k+1) = comsTo lg k := by
  unfold comsTo
  rw [List.take_succ_eq_append_getElem h, List.filterMap_append]
  simp [hk]
theorem comsTo_len (lg : List Event) (k : Nat) : (comsTo lg k).length ≤ lg.length := by
  unfold comsTo
  refine Nat.le_trans (List.length_filterMap_le _ _) ?_
  rw [List.length_take]; omega
def comsC (d : WorldD) : List Int := if worldOk d = true then comsTo d.log_ d.log_.length else []
/-- The opens of a thread's attempt ahead of a place. -/
def attTo (lg : List Event) (th : Int) : Nat → List Int
  | 0 => []
  | k+1 => match lg[k]? with
    | some e => if e.thread_ = th then (if e.kind_ = 1 then attTo lg th k ++ [(k : Int)] else if e.kind_ = 3 ∨ e.kind_ = 4 ∨ e.kind_ = 5 then [] else attTo lg th k) else attTo lg th k
    | none => attTo lg th k
theorem attTo_succ {lg : List Event} {th : Int} {k : Nat} (h : k < lg.length) : attTo lg th (k+1) = if lg[k].thread_ = th then (if lg[k].kind_ = 1 then attTo lg th k ++ [(k : Int)] else if lg[k].kind_ = 3 ∨ lg[k].kind_ = 4 ∨ lg[k].kind_ = 5 then [] else attTo lg th k) else attTo lg th k := by
  conv => lhs; unfold attTo
  rw [List.getElem?_eq_getElem h]
theorem attTo_len (lg : List Event) (th : Int) : ∀ k, (attTo lg th k).length ≤ k
  | 0 => Nat.le_refl _
  | k+1 => by
    have ih := attTo_len lg th k
    unfold attTo
    split
    · split
      · split
        · rw [List.length_append]; simp; omega
        · split
          · simp
          · omega
      · omega
    · omega
/-- Each is the place of an open of the thread's, ahead of k. -/
theorem attTo_mem (lg : List Event) (th : Int) : ∀ k, ∀ x ∈ attTo lg th k, ∃ n : Nat, x = (n : Int) ∧ n < k ∧ ∃ h : n < lg.length, lg[n].kind_ = 1
  | 0 => by simp [attTo]
  | k+1 => by
    have ih := attTo_mem lg th k
    have up : ∀ x ∈ attTo lg th k, ∃ n : Nat, x = (n : Int) ∧ n < k+1 ∧ ∃ h : n < lg.length, lg[n].kind_ = 1 := fun x hx => by
      obtain ⟨n, h1, h2, h3⟩ := ih x hx; exact ⟨n, h1, by omega, h3⟩
    unfold attTo
    split
    · rename_i e he
      have hkl : k < lg.length := by
        rcases Nat.lt_or_ge k lg.length with h | h
        · exact h
        · rw [List.getElem?_eq_none h] at he; cases he
      rw [List.getElem?_eq_getElem hkl] at he
      obtain rfl := Option.some.inj he
      split
      · split
        · rename_i hk1
          intro x hx
          rw [List.mem_append, List.mem_singleton] at hx
          rcases hx with hx | rfl
          · exact up x hx
          · exact ⟨k, rfl, by omega, hkl, hk1⟩
        · split
          · simp
          · exact up
      · exact up
    · exact up
/-- The object and the value that an event tells. -/
def evObj (lg : List Event) (p : Int) : Int := match lg[p.toNat]? with | some e => e.object_ | none => 0
def evVal (lg : List Event) (p : Int) : Int := match lg[p.toNat]? with | some e => e.value_ | none => 0
/-- The open at place i of a list is the last of its object. -/
def lastAt (lg : List Event) (os : List Int) (i : Nat) : Bool := (os.drop (i+1)).all fun q => !(evObj lg q == evObj lg (os.getD i 0))
def openOk12 (lg : List Event) (st os : List Int) (i : Nat) : Bool := !lastAt lg os i || (st.getD (evObj lg (os.getD i 0)).toNat 0 == evVal lg (os.getD i 0))
def seen12 (fs : List Int) (ds : List DescD) (lg : List Event) (p : Nat) : Bool :=
  let os := attTo lg (match lg[p]? with | some e => e.thread_ | none => 0) p
  decide (0 < os.length) && (List.range os.length).all (openOk12 lg (stateN fs ds lg (os.getD (os.length - 1) 0).toNat) os)
/-- What an event comes to: 0: explained, 2: a commit that is not, 3: a sight that is not. -/
def codeAt (fs : List Int) (ds : List DescD) (lg : List Event) (i : Nat) : Int := match lg[i]? with
  | some e => if e.kind_ = 3 then (if canL (stateN fs ds lg i) (entsAt ds e.object_) = true then 0 else 2) else if e.kind_ = 2 then (if seen12 fs ds lg i = true then 0 else 3) else 0
  | none => 0
def explTo (fs : List Int) (ds : List DescD) (lg : List Event) : Nat → Nat → Int × Int
  | 0, _ => (-1, 0)
  | n+1, i => if codeAt fs ds lg i = 0 then explTo fs ds lg n (i+1) else ((i : Int), codeAt fs ds lg i)
def explC (d : WorldD) : Int × Int := if worldOk d = true then explTo d.first_ d.store_.descs_ d.log_ d.log_.length 0 else (-1, 1)
theorem worldOk_ev {d : WorldD} (h : worldOk d = true) : ∀ i, (hi : i < d.log_.length) → evOk d.first_.length d.store_.descs_.length d.threads_.length d.log_[i] = true := by
  intro i hi
  unfold worldOk logOk at h
  simp only [Bool.and_eq_true] at h
  have z := h.2.2.2.1.1
  rw [List.all_eq_true] at z
  exact z _ (List.getElem_mem hi)
theorem worldOk_first {d : WorldD} (h : worldOk d = true) : 1 ≤ d.first_.length ∧ d.first_.length ≤ 8 ∧ d.first_.length = d.store_.heads_.length := by
  unfold worldOk partsOk at h
  simp only [Bool.and_eq_true] at h
  have h1 := (storeOk_all h.1.1.1).1
  have h2 : (d.first_.length : Int) = d.store_.heads_.length := by simpa using h.1.1.2
  omega
theorem worldOk_store12 {d : WorldD} (h : worldOk d = true) : storeOk d.store_.heads_ d.store_.descs_ = true := by
  unfold worldOk partsOk at h
  simp only [Bool.and_eq_true] at h
  exact h.1.1.1
theorem worldOk_ents {d : WorldD} (h : worldOk d = true) (i : Nat) (hi : i < d.store_.descs_.length) : ∀ k, (hk : k < d.store_.descs_[i].entries_.length) → 0 ≤ d.store_.descs_[i].entries_[k].object_ ∧ d.store_.descs_[i].entries_[k].object_ < (d.first_.length : Int) := by
  intro k hk
  have h1 := (storeOk_all (worldOk_store12 h)).2.2.1 i hi
  rw [descIn_is, Bool.and_eq_true, List.all_eq_true] at h1
  have h2 := h1.2 _ (List.getElem_mem hk)
  have h3 := (worldOk_first h).2.2
  rw [h3]
  unfold objIn at h2
  simpa using h2
theorem evOk_com {n m k : Nat} {e : Event} (h : evOk n m k e = true) (hk : e.kind_ = 3) : 0 ≤ e.object_ ∧ e.object_ < (m : Int) := by
  unfold evOk at h
  simp only [Bool.and_eq_true] at h
  have z := h.2.2
  rw [hk] at z
  have y : 0 ≤ e.object_ ∧ e.object_ ≤ (m : Int) - 1 := by simpa [inB] using z
  omega
theorem evOk_open {n m k : Nat} {e : Event} (h : evOk n m k e = true) (hk : e.kind_ = 1) : 0 ≤ e.object_ ∧ e.object_ < (n : Int) := by
  unfold evOk at h
  simp only [Bool.and_eq_true] at h
  have z := h.2.1
  rw [hk] at z
  have z2 : inB e.object_ 0 ((n : Int) - 1) = true ∧ isVal e.value_ = true := by simpa using z
  have y : 0 ≤ e.object_ ∧ e.object_ ≤ (n : Int) - 1 := by simpa [inB] using z2.1
  omega
end Go.Proofs.YtbbdchlabdilcaaGreat
/- Chapter 12's model: a state. (printed by tools/mk_s12.py) -/
namespace Go.Proofs.YtbbdchlabdilcaaGreat
set_option maxRecDepth 100000
open Go.RowKit Go.Proofs Go.Own
open Go Go.BigFrame
set_option linter.unusedVariables false
set_option linter.unusedSimpArgs false
set_option maxHeartbeats 16000000 in
theorem spec_l12State0 (d : WorldD) (p : Nat) (v0 v1 v2 v3 v4 : Value) (w : World) (h0 : rdsL w v0 d.first_) (h1 : rdsL w v1 d.store_.heads_) (h2 : rdsL w v2 d.store_.descs_) (h3 : rdsL w v3 d.threads_) (h4 : rdsL w v4 d.log_) (hok : worldOk d = true) (hp : p ≤ d.log_.length) :
    Calls Tryz.prog 130 #[.agg #[v0, v1, v2, v3, v4], .int .i64 (p : Int)] w fun e w' => ∃ u : Value, e = .returned u ∧ w'.ownsRow w.heap.size 3 1 u d.first_.length ((stateN d.first_ d.store_.descs_ d.log_ p).flatMap encI) ∧ Below w.heap.size w w' := by
  obtain ⟨fs, ⟨hs, ds⟩, ts, lg⟩ := d
  dsimp only at h0 h1 h2 h3 h4 hp ⊢
  obtain ⟨a0, cap0, rfl, hl0, hm0, -⟩ := rdsL_open h0
  obtain ⟨a1, cap1, rfl, hl1, hm1, -⟩ := rdsL_open h1
  obtain ⟨a2, cap2, rfl, hl2, hm2, hc2⟩ := rdsL_open h2
  obtain ⟨a3, cap3, rfl, hl3, hm3, hc3⟩ := rdsL_open h3
  obtain ⟨a4, cap4, rfl, hl4, hm4, hc4⟩ := rdsL_open h4
  have HC2 := hid hc2
  have HC3 := hid hc3
  have HC4 := hid hc4
  have hlf : fs.length ≤ 9223372036854775807 := by omega
  have hlh : hs.length ≤ 9223372036854775807 := by omega
  have hld : ds.length ≤ 9223372036854775807 := by omega
  have hlt_ : ts.length ≤ 9223372036854775807 := by omega
  have hll : lg.length ≤ 9223372036854775807 := by omega
  have R0 := hid h0
  have R1 := hid h1
  have R2 := hid h2
  have R3 := hid h3
  have R4 := hid h4
  have hev := hid (worldOk_ev hok)
  have hfi := And.intro (worldOk_first hok).1 (worldOk_first hok).2.1
  have hen := hid (worldOk_ents hok)
  dsimp only at hfi hev hen
  clear h0 h1 h2 h3 h4 hc2 hc3 hc4 hok
  obtain ⟨W1, hW1⟩ : ∃ X, w.alloc (.cells #[Value.slice a0 fs.length cap0, Value.slice a1 hs.length cap1, Value.slice a2 ds.length cap2, Value.slice a3 ts.length cap3, Value.slice a4 lg.length cap4] 32) = X := ⟨_, rfl⟩
  have hB1 : Below w.heap.size w W1 := by rw [← hW1]; exact (Below.refl _ _).alloc (Nat.le_refl _) _
  have bw : Box W1 w.heap.size [Value.slice a0 fs.length cap0, Value.slice a1 hs.length cap1, Value.slice a2 ds.length cap2, Value.slice a3 ts.length cap3, Value.slice a4 lg.length cap4] := by rw [← hW1]; exact Box.alloc _ _ _
  have hN := bw.1
  have k0 : W1.cell? ⟨w.heap.size, 0, none⟩ = some (Value.slice a0 fs.length cap0) := bw.2 0 (by simp)
  have HW1 := hid hW1
  have BW := hid bw
  clear hW1
  go_enter Tryz.func130, Tryz.ntmps130
  go_wp2_with fail
  rw [HW1.out]
  refine (spec_l1Copy _ fs _ (rdsInts.1 (rdsL.below R0.out hB1)) (by omega)).mono ?_
  rintro e w2 ⟨u, rfl, hO, b2⟩
  have B2 := hB1.trans (b2.mono hB1.size)
  obtain ⟨g, gc, rfl, hgc1, hgc2, hg1, hg2, -, -⟩ := owns_at hO (by omega)
  have bw2 := bw.below b2
  have hsz1 : W1.heap.size = w.heap.size + 1 := by rw [← HW1.out]; simp
  have HO0 := hid (show w2.ownsRow W1.heap.size 3 1 (.slice (some ⟨g, 0, none⟩) fs.length gc) fs.length ((stateN fs ds lg 0).flatMap encI) from hO)
  have BW2 := hid bw2
  clear hO k0 bw bw2 HW1
  go_wp2
  go_loopw [6] (fun i wr => ∃ k : Nat, k ≤ p ∧ i = .int .i64 k ∧ Hid (wr.ownsRow W1.heap.size 3 1 (.slice (some ⟨g, 0, none⟩) fs.length gc) fs.length ((stateN fs ds lg k).flatMap encI)) ∧ Hid (ChgS (fun b => b = g) w2 wr)) (fun i _ => p - (intOf i).toNat)
  case atStart => exact ⟨0, by omega, rfl, HO0, hid (ChgS.refl _ _)⟩
  case round =>
    clear HO0
    obtain ⟨k, hk, rfl, HO, HC⟩ := hrel
    have hBr := below_chg B2 HC.out B2.size (fun b hb => by omega)
    have HB := hid hBr
    have bwr := BW2.out.chg HC.out (by omega)
    have q2 : wr.cell? ⟨w.heap.size, 2, none⟩ = some (Value.slice a2 ds.length cap2) := bwr.2 2 (by simp)
    have q4 : wr.cell? ⟨w.heap.size, 4, none⟩ = some (Value.slice a4 lg.length cap4) := bwr.2 4 (by simp)
    clear bwr
    by_cases hlt : k < p
    · have hkl : k < lg.length := by omega
      obtain ⟨bb, off, cs, rfl, hbs, hel, hcell⟩ := HC4.out k hkl
      have hel : cs = Event.enc lg[k] := hel
      subst hel
      have c0 : w.cell? ⟨bb, off + k * 4, none⟩ = some (.int .i64 lg[k].kind_) := hcell 0 (show 0 < 4 by omega)
      have c2 : w.cell? ⟨bb, off + k * 4 + 2, none⟩ = some (.int .i64 lg[k].object_) := hcell 2 (show 2 < 4 by omega)
      have e0 := (hBr.cell (p := ⟨bb, off + k * 4, none⟩) hbs).trans c0
      have e2 := (hBr.cell (p := ⟨bb, off + k * 4 + 2, none⟩) hbs).trans c2
      have hki : (k : Int) < (lg.length : Int) := by omega
      have hkp : (k : Int) < (p : Int) := by omega
      have hk0 : (0 : Int) ≤ (k : Int) := by omega
      by_cases hk3 : lg[k].kind_ = 3
      · have hco := evOk_com (hev.out k hkl) hk3
        have Hs := hid (stateN_com (fs := fs) (ds := ds) hkl hk3)
        obtain ⟨n, hn⟩ := Int.eq_ofNat_of_zero_le hco.1
        rw [hn] at e2 hco Hs
        rw [hk3] at e0
        have hnl : n < ds.length := by omega
        rw [entsAt_eq hnl] at Hs
        obtain ⟨b2_, of2, cs2, rfl, hbs2, ⟨u2, rfl, r2⟩, hcell2⟩ := HC2.out n hnl
        have d0 : w.cell? ⟨b2_, of2 + n * 3, none⟩ = some (.int .i64 ds[n].owner_) := hcell2 0 (show 0 < 3 by omega)
        have d1 : w.cell? ⟨b2_, of2 + n * 3 + 1, none⟩ = some (.int .i64 ds[n].status_) := hcell2 1 (show 1 < 3 by omega)
        have d2 : w.cell? ⟨b2_, of2 + n * 3 + 2, none⟩ = some u2 := hcell2 2 (show 2 < 3 by omega)
        have f0 := (hBr.cell (p := ⟨b2_, of2 + n * 3, none⟩) hbs2).trans d0
        have f1 := (hBr.cell (p := ⟨b2_, of2 + n * 3 + 1, none⟩) hbs2).trans d1
        have f2 := (hBr.cell (p := ⟨b2_, of2 + n * 3 + 2, none⟩) hbs2).trans d2
        have hn0 : (0 : Int) ≤ (n : Int) := by omega
        have hni : (n : Int) < (ds.length : Int) := by omega
        have HEN := hid (hen.out n hnl)
        have hstl := hid (stateN_len fs ds lg k)
        have hrow := HO.out
        have HR2 := hid r2
        have HROW := hid hrow
        obtain ⟨ua, uc, rfl, -, -, -⟩ := rdsL_open r2
        have hg0 : w.heap.size ≤ g := by omega
        clear c0 c2 hcell d0 d1 d2 hcell2 HC2 HC4 r2 hn hco hrow
        go_wp2
        go_still_tail 12, (by kernel_rfl)
        go_wp2_with fail
        refine (spec_l12Do0 (stateN fs ds lg k) ds[n].owner_ ds[n].status_ ds[n].entries_ fs.length hstl.out W1.heap.size g gc _ w _ (hBr.drew) hg0 HR2.out (owns_below HROW.out (Below.refl _ _).drew) (fun i hi => HEN.out i hi) (by omega)).mono ?_
        rintro e w5 ⟨rfl, o5, C5⟩
        have HO5 := hid (show w5.ownsRow W1.heap.size 3 1 (.slice (some ⟨g, 0, none⟩) fs.length gc) fs.length ((stateN fs ds lg (k+1)).flatMap encI) by rw [Hs.out]; exact o5)
        have HC5 := hid (show ChgS (fun b => b = g) w2 w5 from (HC.out.trans (ChgS.of_below (Below.refl _ _).drew _)).trans C5)
        clear HO HROW Hs o5 C5 e0 e2 f0 f1 f2
        go_wp2
        go_roundw
        case rel => exact ⟨k+1, by omega, by go_num, HO5, HC5⟩
        case measure => simp [intOf]; omega
      · have Hs := hid (stateN_not (fs := fs) (ds := ds) hkl hk3)
        generalize lg[k].kind_ = kd at *
        clear c0 c2 hcell e2
        go_wp2
        go_roundw
        case rel => exact ⟨k+1, by omega, by go_num, hid (by rw [Hs.out]; exact HO.out), HC⟩
        case measure => simp [intOf]; omega
    · obtain rfl : k = p := by omega
      go_wp2
      go_ret
      exact ⟨_, rfl, owns_mono HO.out (by omega), HB.out⟩
end Go.Proofs.YtbbdchlabdilcaaGreat
/- Chapter 12's model: the opens of an attempt. (printed by tools/mk_s12.py) -/
namespace Go.Proofs.YtbbdchlabdilcaaGreat
set_option maxRecDepth 100000
open Go.RowKit Go.Proofs Go.Own
open Go Go.BigFrame
set_option linter.unusedVariables false
set_option linter.unusedSimpArgs false
set_option maxHeartbeats 16000000 in
theorem spec_l12Attempt0 (d : WorldD) (th : Int) (p : Nat) (v0 v1 v2 v3 v4 : Value) (w : World) (h0 : rdsL w v0 d.first_) (h1 : rdsL w v1 d.store_.heads_) (h2 : rdsL w v2 d.store_.descs_) (h3 : rdsL w v3 d.threads_) (h4 : rdsL w v4 d.log_) (hp : p ≤ d.log_.length) (hb : WorldB d) :
    Calls Tryz.prog 186 #[.agg #[v0, v1, v2, v3, v4], .int .i64 th, .int .i64 (p : Int)] w fun e w' => ∃ u : Value, e = .returned u ∧ w'.ownsRow w.heap.size 3 1 u (attTo d.log_ th p).length ((attTo d.log_ th p).flatMap encI) ∧ Below w.heap.size w w' := by
  obtain ⟨j0, hj, hy0, hy1, hy2⟩ := info_parts infoInt
  obtain ⟨fs, ⟨hs, ds⟩, ts, lg⟩ := d
  have hlg : lg.length ≤ 1048576 := by have h := (worldB_parts hb).2.2.2; exact h
  dsimp only at h0 h1 h2 h3 h4 hp ⊢
  obtain ⟨a0, cap0, rfl, hl0, hm0, -⟩ := rdsL_open h0
  obtain ⟨a1, cap1, rfl, hl1, hm1, -⟩ := rdsL_open h1
  obtain ⟨a2, cap2, rfl, hl2, hm2, -⟩ := rdsL_open h2
  obtain ⟨a3, cap3, rfl, hl3, hm3, -⟩ := rdsL_open h3
  obtain ⟨a4, cap4, rfl, hl4, hm4, hc4⟩ := rdsL_open h4
  have HC4 := hid hc4
  have hlf : fs.length ≤ 9223372036854775807 := by omega
  have hlh : hs.length ≤ 9223372036854775807 := by omega
  have hld : ds.length ≤ 9223372036854775807 := by omega
  have hlt_ : ts.length ≤ 9223372036854775807 := by omega
  have hll : lg.length ≤ 9223372036854775807 := by omega
  clear h0 h1 h2 h3 h4 hb hc4
  obtain ⟨W1, hW1⟩ : ∃ X, (w.alloc (.cells #[Value.slice a0 fs.length cap0, Value.slice a1 hs.length cap1, Value.slice a2 ds.length cap2, Value.slice a3 ts.length cap3, Value.slice a4 lg.length cap4] 32)).alloc (.cells #[] 3) = X := ⟨_, rfl⟩
  have hB1 : Below w.heap.size w W1 := by rw [← hW1]; exact ((Below.refl _ _).alloc (Nat.le_refl _) _).alloc (by simp) _
  have hN : W1.heap.size = w.heap.size + 2 := by rw [← hW1]; simp
  have BP1 : Hid (BoxF W1 w.heap.size [Value.slice a0 fs.length cap0, Value.slice a1 hs.length cap1, Value.slice a2 ds.length cap2, Value.slice a3 ts.length cap3, Value.slice a4 lg.length cap4]) := by
    rw [← hW1]
    exact hid ((BoxF.alloc w #[Value.slice a0 fs.length cap0, Value.slice a1 hs.length cap1, Value.slice a2 ds.length cap2, Value.slice a3 ts.length cap3, Value.slice a4 lg.length cap4] 32).below ((Below.refl _ _).alloc (Nat.le_refl _) _))
  have O1 : Hid (W1.ownsRow (w.heap.size + 1) 3 1 (.slice (some ⟨w.heap.size + 1, 0, none⟩) 0 0) 0 []) := by
    rw [← hW1]
    have h1 := owns_litN (w.alloc (.cells #[Value.slice a0 fs.length cap0, Value.slice a1 hs.length cap1, Value.slice a2 ds.length cap2, Value.slice a3 ts.length cap3, Value.slice a4 lg.length cap4] 32)) 3 1 0 #[] (w.heap.size + 1) (by simp) rfl (Nat.zero_le _)
    rw [show (w.alloc (.cells #[Value.slice a0 fs.length cap0, Value.slice a1 hs.length cap1, Value.slice a2 ds.length cap2, Value.slice a3 ts.length cap3, Value.slice a4 lg.length cap4] 32)).heap.size = w.heap.size + 1 by simp] at h1
    exact hid h1
  have hM1 : w.heap.size + 1 ≤ W1.heap.size := by omega
  go_enter Tryz.func186, Tryz.ntmps186
  go_wp2
  clear hW1
  go_loopw [8, 7] (fun i u wr => ∃ (k : Nat) (ua : Option Addr) (um uc : Nat), k ≤ p ∧ i = .int .i64 k ∧ u = Value.slice ua um uc ∧ Below w.heap.size w wr ∧ w.heap.size + 1 ≤ wr.heap.size ∧ Hid (BoxF wr w.heap.size [Value.slice a0 fs.length cap0, Value.slice a1 hs.length cap1, Value.slice a2 ds.length cap2, Value.slice a3 ts.length cap3, Value.slice a4 lg.length cap4]) ∧ Hid (wr.ownsRow (w.heap.size + 1) 3 1 (.slice ua um uc) (attTo lg th k).length ((attTo lg th k).flatMap encI))) (fun i _ _ => p - (intOf i).toNat)
  case atStart => exact ⟨0, _, _, _, by omega, rfl, rfl, hB1, hM1, BP1, O1⟩
  case round =>
    clear hB1 hN BP1 O1 hM1
    clear W1
    obtain ⟨k, ua, um, uc, hk, rfl, rfl, hB, hM, BP, O1⟩ := hrel
    have q4 : wr.cell? ⟨w.heap.size, 4, none⟩ = some (Value.slice a4 lg.length cap4) := BP.out.1.2 4 (by simp)
    by_cases hlt : k < p
    · have hkl : k < lg.length := by omega
      obtain ⟨bb, off, cs, rfl, hbs, hel, hcell⟩ := HC4.out k hkl
      have hel : cs = Event.enc lg[k] := hel
      subst hel
      have Hs := hid (attTo_succ (th := th) hkl)
      have hcl := attTo_len lg th k
      have c0 : w.cell? ⟨bb, off + k * 4, none⟩ = some (.int .i64 lg[k].kind_) := hcell 0 (show 0 < 4 by omega)
      have c1 : w.cell? ⟨bb, off + k * 4 + 1, none⟩ = some (.int .i64 lg[k].thread_) := hcell 1 (show 1 < 4 by omega)
      have c2 : w.cell? ⟨bb, off + k * 4 + 2, none⟩ = some (.int .i64 lg[k].object_) := hcell 2 (show 2 < 4 by omega)
      have c3 : w.cell? ⟨bb, off + k * 4 + 3, none⟩ = some (.int .i64 lg[k].value_) := hcell 3 (show 3 < 4 by omega)
      have e0 := (hB.cell (p := ⟨bb, off + k * 4, none⟩) hbs).trans c0
      have e1 := (hB.cell (p := ⟨bb, off + k * 4 + 1, none⟩) hbs).trans c1
      have e2 := (hB.cell (p := ⟨bb, off + k * 4 + 2, none⟩) hbs).trans c2
      have e3 := (hB.cell (p := ⟨bb, off + k * 4 + 3, none⟩) hbs).trans c3
      have hki : (k : Int) < (lg.length : Int) := by omega
      have hkp : (k : Int) < (p : Int) := by omega
      have hk0 : (0 : Int) ≤ (k : Int) := by omega
      generalize lg[k].kind_ = kd at *
      generalize lg[k].thread_ = et at *
      generalize lg[k].object_ = ob at *
      generalize lg[k].value_ = va at *
      clear c0 c1 c2 c3 hcell HC4
      obtain ⟨V, hV⟩ : ∃ X, wr.alloc (.cells #[.int .i64 kd, .int .i64 et, .int .i64 ob, .int .i64 va] 106) = X := ⟨_, rfl⟩
      have hBV : Below wr.heap.size wr V := by rw [← hV]; exact (Below.refl _ _).alloc (Nat.le_refl _) _
      have bv : BoxF V wr.heap.size [.int .i64 kd, .int .i64 et, .int .i64 ob, .int .i64 va] := by rw [← hV]; exact BoxF.alloc _ _ _
      have y0 : V.cell? ⟨wr.heap.size, 0, none⟩ = some (.int .i64 kd) := bv.1.2 0 (by simp)
      have y1 : V.cell? ⟨wr.heap.size, 1, none⟩ = some (.int .i64 et) := bv.1.2 1 (by simp)
      have HBV := hid (hB.trans (hBV.mono hB.size))
      have BPV := hid (BP.out.below hBV)
      have OV := hid (owns_below O1.out hBV)
      have HSZ := hid (show w.heap.size + 1 ≤ V.heap.size by have := hBV.size; omega)
      have HVs := hid (show V.heap.size = wr.heap.size + 1 by rw [← hV]; simp)
      clear bv BP O1
      by_cases ht : et = th
      case neg =>
        have htb : (et != th) = true := by simpa using ht
        have Hn := hid (show attTo lg th (k+1) = attTo lg th k by rw [Hs.out, if_neg ht])
        have HS' := HSZ.out
        clear Hs
        go_wp2
        go_roundw
        case rel => exact ⟨k+1, _, _, _, by omega, by go_num, rfl, HBV.out, HS', BPV, hid (by rw [Hn.out]; exact OV.out)⟩
        case measure => simp [intOf]; omega
      subst ht
      by_cases k1 : kd = 1
      · have Hn := hid (show attTo lg et (k+1) = attTo lg et k ++ [(k : Int)] by rw [Hs.out, if_pos rfl, if_pos k1])
        subst k1
        clear Hs
        obtain ⟨W3, hW3⟩ : ∃ Y, V.alloc (.cells #[.int .i64 (k : Int)] 3) = Y := ⟨_, rfl⟩
        have b23 : Below V.heap.size V W3 := by rw [← hW3]; exact (Below.refl _ _).alloc (Nat.le_refl _) _
        have hB3 := HBV.out.trans (b23.mono HBV.out.size)
        have hl3 : Flat W3 (.slice (some ⟨V.heap.size, 0, none⟩) 1 1) 1 1 [.int .i64 (k : Int)] := by rw [← hW3]; exact Flat.of_owns (owns_litN V 3 1 1 #[.int .i64 (k : Int)] 0 (Nat.zero_le _) rfl (by decide))
        have O3 := owns_below OV.out b23
        have hone := oneCell_1 (k : Int)
        have hs3 := hB3.size
        have hs3' : w.heap.size + 1 ≤ W3.heap.size := by have := b23.size; have := HSZ.out; omega
        have BP3 := BPV.out.below b23
        go_wp2_with (at_builtin; refine wpList_append_flat rfl _ _ 24 rfl (w.heap.size + 1) 3 j0 (.int .i64 0) 1 8 Tryz.underlying24 hj hy0 hy1 hy2 rfl (by decide) _ _ _ rfl O3 _ _ _ rfl hl3 hone (by unfold maxLen; omega) (by omega) hs3' ?_)
        intro v4 w4 o4 g4
        obtain ⟨ya, ym, yc, rfl⟩ := owns_form3 o4
        have hB4 : Below w.heap.size w w4 := hB3.trans (below_grown g4 hB3.size fun b e => by have := (World.ownsRow.lt O3 b e).1; omega)
        have BP4 := hid (BP3.grown g4 (fun e => by have := (World.ownsRow.lt O3 _ e).1; omega))
        have O4 := hid o4
        have hs4 : w.heap.size + 1 ≤ w4.heap.size := by have := g4.size; omega
        clear o4 g4 O3 BP3 hl3 hW3 b23 hone
        go_wp2
        go_roundw
        case rel => exact ⟨k+1, _, _, _, by omega, by go_num, rfl, hB4, hs4, BP4, hid (by rw [Hn.out, encI_snoc, List.length_append]; exact O4.out)⟩
        case measure => simp [intOf]; omega
      by_cases k3 : kd = 3 ∨ kd = 4 ∨ kd = 5
      · have Hn := hid (show attTo lg et (k+1) = [] by rw [Hs.out, if_pos rfl, if_neg k1, if_pos k3])
        obtain ⟨W5, hW5⟩ : ∃ Y, V.alloc (.cells #[] 3) = Y := ⟨_, rfl⟩
        have b25 : Below V.heap.size V W5 := by rw [← hW5]; exact (Below.refl _ _).alloc (Nat.le_refl _) _
        have HB5 := hid (HBV.out.trans (b25.mono HBV.out.size))
        have BP5 := hid (BPV.out.below b25)
        have hS5 : w.heap.size + 1 ≤ W5.heap.size := by have := b25.size; have := HSZ.out; omega
        have O5 := hid (show W5.ownsRow (w.heap.size + 1) 3 1 (.slice (some ⟨V.heap.size, 0, none⟩) 0 0) 0 [] by rw [← hW5]; exact owns_litN V 3 1 0 #[] (w.heap.size + 1) HSZ.out rfl (Nat.zero_le _))
        clear Hs OV BPV
        rcases k3 with rfl | rfl | rfl
        all_goals go_wp2
        all_goals go_roundw
        case rel => exact ⟨k+1, _, _, _, by omega, by go_num, rfl, HB5.out, hS5, BP5, hid (by rw [Hn.out]; exact O5.out)⟩
        case rel => exact ⟨k+1, _, _, _, by omega, by go_num, rfl, HB5.out, hS5, BP5, hid (by rw [Hn.out]; exact O5.out)⟩
        case rel => exact ⟨k+1, _, _, _, by omega, by go_num, rfl, HB5.out, hS5, BP5, hid (by rw [Hn.out]; exact O5.out)⟩
        all_goals (simp [intOf]; omega)
      · have Hn := hid (show attTo lg et (k+1) = attTo lg et k by rw [Hs.out, if_pos rfl, if_neg k1, if_neg k3])
        have k3a : ¬ kd = 3 := fun h => k3 (.inl h)
        have k4a : ¬ kd = 4 := fun h => k3 (.inr (.inl h))
        have k5a : ¬ kd = 5 := fun h => k3 (.inr (.inr h))
        have HS' := HSZ.out
        clear Hs k3
        go_wp2
        go_roundw
        case rel => exact ⟨k+1, _, _, _, by omega, by go_num, rfl, HBV.out, HS', BPV, hid (by rw [Hn.out]; exact OV.out)⟩
        case measure => simp [intOf]; omega
    · obtain rfl : k = p := by omega
      go_wp2
      go_ret
      exact ⟨_, rfl, owns_mono O1.out (by omega), hB⟩
end Go.Proofs.YtbbdchlabdilcaaGreat
