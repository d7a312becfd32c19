/- Chapter 11: what its functions answer. -/
import Derived.Test.YtbbdchlabdilcabGreatF10
import Derived.Test.YtbbdchlabdilcabGreatN11w
import Derived.Test.YtbbdchlabdilcabGreatM1
import Derived.Test.YtbbdchlabdilcabGreatProg
import Derived.Test.YtbbdchlabdilcabGreatF6
import Derived.Test.YtbbdchlabdilcabGreatBx
namespace Go.Proofs.YtbbdchlabdilcabGreat
set_option maxRecDepth 100000
open Go.RowKit Go.Proofs Go.Own
/-- An event of a log, over n objects, m descriptors, k threads. -/
def evOk (n m k : Nat) (e : Event) : Bool :=
  (inB e.kind_ 1 6 && inB e.thread_ 0 ((k : Int) - 1)) && ((!(e.kind_ == 1) || (inB e.object_ 0 ((n : Int) - 1) && isVal e.value_)) && (!(e.kind_ == 3) || inB e.object_ 0 ((m : Int) - 1)))
/-- How often descriptor i is told to be committed. -/
def cntEv (xs : List Event) (i : Nat) : Nat := xs.countP fun e => e.kind_ == 3 && e.object_ == (i : Int)
def cntRow (xs : List Event) (j m : Nat) : List Int := (List.range m).map fun i : Nat => (cntEv (xs.take j) i : Int)
theorem cntRow_len (xs : List Event) (j m : Nat) : (cntRow xs j m).length = m := by simp [cntRow]
theorem cntRow_get (xs : List Event) (j m i : Nat) (h : i < m) : (cntRow xs j m)[i]'(by rw [cntRow_len]; exact h) = (cntEv (xs.take j) i : Int) := by simp [cntRow]
theorem cntEv_le (xs : List Event) (i : Nat) : cntEv xs i ≤ xs.length := List.countP_le_length
theorem cntEv_step (xs : List Event) (j : Nat) (h : j < xs.length) (i : Nat) : cntEv (xs.take (j+1)) i = cntEv (xs.take j) i + (if xs[j].kind_ == 3 && xs[j].object_ == (i : Int) then 1 else 0) := by
  unfold cntEv
  rw [List.take_succ_eq_append_getElem h, List.countP_append, List.countP_singleton]
theorem cntRow_same (xs : List Event) (j m : Nat) (h : j < xs.length) (hk : (xs[j].kind_ == 3) = false) : cntRow xs (j+1) m = cntRow xs j m := by
  apply List.ext_getElem (by rw [cntRow_len, cntRow_len])
  intro t h1 h2
  have ht : t < m := by rw [cntRow_len] at h2; exact h2
  rw [cntRow_get _ _ _ _ ht, cntRow_get _ _ _ _ ht, cntEv_step xs j h, hk]
  simp
theorem cntRow_set (xs : List Event) (j m o : Nat) (h : j < xs.length) (hk : xs[j].kind_ = 3) (ho : xs[j].object_ = (o : Int)) : (cntRow xs j m).set o ((cntEv (xs.take j) o : Int) + 1) = cntRow xs (j+1) m := by
  apply List.ext_getElem (by rw [List.length_set, cntRow_len, cntRow_len])
  intro t h1 h2
  have ht : t < m := by rw [cntRow_len] at h2; exact h2
  rw [cntRow_get _ _ _ _ ht, cntEv_step xs j h, hk, ho]
  by_cases e : o = t
  · subst e; rw [List.getElem_set_self]; simp
  · rw [List.getElem_set_ne e, cntRow_get _ _ _ _ ht, if_neg (by simp; omega)]; simp
theorem cntRow_zero (xs : List Event) (m : Nat) : cntRow xs 0 m = List.replicate m 0 := by
  apply List.ext_getElem (by rw [cntRow_len, List.length_replicate])
  intro t h1 h2
  have ht : t < m := by rw [cntRow_len] at h1; exact h1
  rw [cntRow_get _ _ _ _ ht, List.getElem_replicate]
  simp [cntEv]
/-- Descriptor q is told to be committed once where it is, else never. -/
def cntAt (xs : List Event) (ds : List DescD) (q : Nat) : Bool := match ds[q]? with | some d => (cntEv xs q : Int) == (if d.status_ == 1 then 1 else 0) | none => true
theorem cntAt_of (xs : List Event) (ds : List DescD) (q : Nat) (h : q < ds.length) : cntAt xs ds q = ((cntEv xs q : Int) == (if ds[q].status_ == 1 then 1 else 0)) := by
  unfold cntAt
  rw [List.getElem?_eq_getElem h]
def logOk (xs : List Event) (ds : List DescD) (n k : Nat) : Bool := xs.all (evOk n ds.length k) && (List.range ds.length).all (cntAt xs ds) && decide ((xs.length : Int) ≤ 3000)
/-- Threads in their places, each right. -/
def thAt (d : WorldD) (q : Nat) : Bool := match d.threads_[q]? with | some t => t.id_ == (q : Int) && threadOk d.store_ t | none => true
theorem thAt_of (d : WorldD) (q : Nat) (h : q < d.threads_.length) : thAt d q = (d.threads_[q].id_ == (q : Int) && threadOk d.store_ d.threads_[q]) := by
  unfold thAt
  rw [List.getElem?_eq_getElem h]
def ownIn (k : Nat) (d : DescD) : Bool := decide (d.owner_ < (k : Int))
def partsOk (d : WorldD) : Bool := (storeOk d.store_.heads_ d.store_.descs_ && ((d.first_.length : Int) == d.store_.heads_.length)) && (allIn d.first_ (-1000000000) 1000000000 0 && inB (d.threads_.length : Int) 1 4)
def worldOk (d : WorldD) : Bool := partsOk d && ((List.range d.threads_.length).all (thAt d) && (d.store_.descs_.all (ownIn d.threads_.length) && logOk d.log_ d.store_.descs_ d.first_.length d.threads_.length))
theorem all_false {α : Type} (f : α → Bool) (xs : List α) (k : Nat) (h : k < xs.length) (hf : f xs[k] = false) : xs.all f = false := by
  rw [List.all_eq_false]
  exact ⟨xs[k], List.getElem_mem h, by rw [hf]; simp⟩
end Go.Proofs.YtbbdchlabdilcabGreat
/- Chapter 6's model: an entry that is so, OpenOk, Opened, a list's copy. -/
/- The contracts of the model's small functions. -/
namespace Go.Proofs.YtbbdchlabdilcabGreat
set_option maxRecDepth 100000
open Go.RowKit Go.Proofs Go.Own

theorem spec_l1In (x a b : Int) (w : World) :
    Calls Tryz.prog 36 #[.int .i64 x, .int .i64 a, .int .i64 b] w fun e w' => e = .returned (.bool (inB x a b)) ∧ w = w' := by
  go_enter Tryz.func36, Tryz.ntmps36
  go_wp2
  all_goals go_ret
  all_goals (simp [inB, *]; try omega)

theorem spec_l1Value (x : Int) (w : World) :
    Calls Tryz.prog 67 #[.int .i64 x] w fun e w' => e = .returned (.bool (isVal x)) ∧ w = w' := by
  go_enter Tryz.func67, Tryz.ntmps67
  go_wp2_with (go_at_call 36; refine (spec_l1In _ _ _ _).mono ?_; rintro e w' ⟨rfl, rfl⟩)
  go_ret
  exact ⟨rfl, rfl⟩

theorem infoInt0 : (Tryz.prog.info? 3).map (fun i => (i.zero, i.size, i.bytes)) = some (some (.int .i64 0), 1, 8) := by kernel_rfl


theorem quiet_eq {P : Program} {f : FuncId} {args : Array Value} {w : World} {n : Nat} {v : Value}
    (h : Calls P f args (w.drewN n) fun e w' => e = .returned v ∧ w.drewN n = w') : Calls P f args (w.drewN n) fun e w'' => e = .returned v ∧ ∃ m, w'' = w.drewN m :=
  h.mono fun _ _ ⟨he, hm⟩ => ⟨he, n, hm.symm⟩


/-- A slice cut at k from its beginning. -/
theorem Ints.cut {w : World} {v : Value} {xs : List Int} {b off cap : Nat} (h : Ints w v xs) (hv : v = .slice (some ⟨b, off, none⟩) xs.length cap) (k : Nat) (hk : k ≤ xs.length) : Ints w (.slice (some ⟨b, off, none⟩) k cap) (xs.take k) := by
  obtain ⟨_, a, c, e, h1, h2, _, h3⟩ := h
  rw [hv] at e
  obtain ⟨rfl, rfl⟩ : a = some ⟨b, off, none⟩ ∧ c = cap := by simp at e; exact ⟨e.1.symm, e.2.symm⟩
  have hl : (xs.take k).length = k := by simp; omega
  refine ⟨flatMap_len encI 1 (fun _ => rfl) _, _, _, by rw [hl], by omega, h2, (by intro e; cases e), ?_⟩
  by_cases h0 : k = 0
  · exact .inl (by omega)
  · rcases h3 with h3 | ⟨b', off', ha, hs, hc⟩
    · omega
    · simp only [Option.some.injEq, Addr.mk.injEq, and_true] at ha
      obtain ⟨rfl, rfl⟩ := ha
      refine .inr ⟨b, off, rfl, hs, fun j hj => ?_⟩
      have hj' : j < k := by rw [flatMap_len encI 1 (fun _ => rfl)] at hj; omega
      have hjx : j < (xs.flatMap encI).length := by rw [flatMap_len encI 1 (fun _ => rfl)]; omega
      rw [hc j hjx]
      congr 1
      simp only [encI_map, List.getElem_map, List.getElem_take]

end Go.Proofs.YtbbdchlabdilcabGreat
namespace Go.Proofs.YtbbdchlabdilcabGreat
set_option maxRecDepth 100000
open Go.RowKit Go.Proofs Go.Own
set_option linter.unusedVariables false
set_option linter.unusedSimpArgs false
set_option maxHeartbeats 2000000 in
theorem spec_l6Entry (e : Entry) (w : World) :
    Calls Tryz.prog 100 #[.agg #[.int .i64 e.object_, .int .i64 e.version_, .int .i64 e.old_, .int .i64 e.new_, .bool e.write_]] w fun r w' => r = .returned (.bool (entryOk e)) ∧ Below w.heap.size w w' := by
  obtain ⟨a0, a1, a2, a3, a4⟩ := e
  have hE := hid (show entryOk ⟨a0, a1, a2, a3, a4⟩ = (inB a0 0 7 && inB a1 0 1000000 && isVal a2 && isVal a3 && (a4 || a3 == a2)) from rfl)
  dsimp only
  go_enter Tryz.func100, Tryz.ntmps100
  go_wp2_with (first | (go_at_call 36; refine (spec_l1In _ _ _ _).mono ?_; rintro e w' ⟨rfl, rfl⟩) | (go_at_call 67; refine (spec_l1Value _ _).mono ?_; rintro e w' ⟨rfl, rfl⟩))
  all_goals go_ret
  all_goals refine ⟨ret_bool (by rw [hE.out]; simp [*]), (Below.refl _ _).alloc (Nat.le_refl _) _⟩
/-- The cells of an entry behind a step. -/
theorem cells5 {w wr : World} {b o : Nat} {v0 v1 v2 v3 v4 : Value} (hB : Below w.heap.size w wr) (hb : b < w.heap.size) (c0 : w.cell? ⟨b, o, none⟩ = some v0) (c1 : w.cell? ⟨b, o + 1, none⟩ = some v1) (c2 : w.cell? ⟨b, o + 2, none⟩ = some v2) (c3 : w.cell? ⟨b, o + 3, none⟩ = some v3) (c4 : w.cell? ⟨b, o + 4, none⟩ = some v4) :
    wr.cell? ⟨b, o, none⟩ = some v0 ∧ wr.cell? ⟨b, o + 1, none⟩ = some v1 ∧ wr.cell? ⟨b, o + 2, none⟩ = some v2 ∧ wr.cell? ⟨b, o + 3, none⟩ = some v3 ∧ wr.cell? ⟨b, o + 4, none⟩ = some v4 :=
  ⟨(hB.cell (p := ⟨b, o, none⟩) hb).trans c0, (hB.cell (p := ⟨b, o + 1, none⟩) hb).trans c1, (hB.cell (p := ⟨b, o + 2, none⟩) hb).trans c2, (hB.cell (p := ⟨b, o + 3, none⟩) hb).trans c3, (hB.cell (p := ⟨b, o + 4, none⟩) hb).trans c4⟩
set_option maxHeartbeats 8000000 in
theorem spec_OpenOk (v : Value) (xs : List Entry) (w : World) (h : Entrys w v xs) :
    Calls Tryz.prog 71 #[v] w fun e w' => e = .returned (.bool (openOk xs)) ∧ Below w.heap.size w w' := by
  obtain ⟨ad, cap, rfl, hl, hm, hc⟩ := h.open
  clear h
  have hlen : xs.length ≤ 9223372036854775807 := by omega
  have HC := hid hc
  clear hc
  go_enter Tryz.func71, Tryz.ntmps71
  go_wp2
  go_loopw [3] (fun i wr => ∃ k : Nat, k ≤ xs.length ∧ i = .int .i64 k ∧ Same (openAt xs 0) (openAt xs k) ∧ Below w.heap.size w wr) (fun i _ => xs.length - (intOf i).toNat)
  case atStart => exact ⟨0, by omega, rfl, .rfl, Below.refl _ _⟩
  case round =>
    obtain ⟨k, hk, rfl, hS, hB⟩ := hrel
    by_cases hlt : k < xs.length
    · obtain ⟨bb, off, rfl, hbs, c0, c1, c2, c3, c4⟩ := HC.out k hlt
      obtain ⟨e0, e1, e2, e3, e4⟩ := cells5 hB hbs c0 c1 c2 c3 c4
      have hst := hid (openAt_step xs k hlt)
      clear c0 c1 c2 c3 c4
      cases hE : entryOk xs[k] with
      | false =>
        have Hn := hid (openOk_of_bad k hS.out (by rw [hst.out, hE]; rfl))
        go_wp2_with fail
        refine (spec_l6Entry xs[k] _).mono ?_
        rintro e w2 ⟨rfl, hB1⟩
        rw [hE]
        have hB2 := hB.trans (hB1.mono hB.size)
        go_wp2
        go_ret
        exact ⟨ret_bool Hn.out.symm, hB2⟩
      | true =>
        go_wp2_with fail
        refine (spec_l6Entry xs[k] _).mono ?_
        rintro e w2 ⟨rfl, hB1⟩
        rw [hE]
        have hB2 := hB.trans (hB1.mono hB.size)
        have f0 := (hB2.cell (p := ⟨bb, off + k * 5, none⟩) hbs).trans (HC.out k hlt |> fun ⟨_, _, q, _, c, _⟩ => by cases q; exact c)
        clear e0 e1 e2 e3 e4 hB1 hB f0
        go_wp2
        go_loopw [4] (fun i wq => ∃ m : Nat, m ≤ k ∧ i = .int .i64 m ∧ Same (placeFrom (xs.take k) xs[k].object_ m) (placeC (xs.take k) xs[k].object_) ∧ Below w.heap.size w wq) (fun i _ => k - (intOf i).toNat)
        case atStart => exact ⟨0, by omega, rfl, .rfl, hB2⟩
        case round =>
          clear hB2
          obtain ⟨m, hmk, rfl, hP, hB2⟩ := hrel
          by_cases hlt2 : m < k
          · have hml : m < xs.length := by omega
            have f0 := (hB2.cell (p := ⟨bb, off + k * 5, none⟩) hbs).trans (HC.out k hlt |> fun ⟨_, _, q, _, c, _⟩ => by cases q; exact c)
            have g0 := (hB2.cell (p := ⟨bb, off + m * 5, none⟩) hbs).trans (HC.out m hml |> fun ⟨_, _, q, _, c, _⟩ => by cases q; exact c)
            have hmt : m < (xs.take k).length := by simp; omega
            have hget : (xs.take k)[m] = xs[m] := by simp
            have hst2 := hid (placeFrom_step (xs.take k) xs[k].object_ m hmt)
            rw [hget] at hst2
            clear hget
            by_cases heq : xs[m].object_ = xs[k].object_
            · have Hn := hid (openOk_of_bad k hS.out (by
                rw [hst.out, hE, ← hP.out, hst2.out, if_pos heq, decide_eq_false (by omega)]; rfl))
              go_wp2
              go_quiet (fail)
              go_wp2
              go_ret
              exact ⟨ret_bool Hn.out.symm, below_drewN hB2 _⟩
            · go_wp2
              go_quiet (fail)
              go_wp2
              go_roundw
              case rel => exact ⟨m+1, by omega, by go_num, Same.mk (by have h9 := hst2.out; rw [if_neg heq] at h9; rw [← h9]; exact hP.out), below_drewN hB2 _⟩
              case measure => simp [intOf]; omega
          · have Hp := hid (show placeC (xs.take k) xs[k].object_ < 0 by
              rw [← hP.out, placeFrom_end _ _ _ (by simp; omega)]; omega)
            go_wp2
            go_roundw
            case rel => exact ⟨k+1, by omega, by go_num, Same.mk (by rw [hS.out, hst.out, hE, decide_eq_true Hp.out]; rfl), hB2⟩
            case measure => simp [intOf]; omega
    · have Hy := hid (show openOk xs = decide (xs.length ≤ 6) by unfold openOk; rw [hS.out, openAt_end xs k hlt, Bool.and_true])
      by_cases h6 : (xs.length : Int) ≤ 6
      · go_wp2
        go_ret
        exact ⟨ret_bool (by rw [Hy.out, decide_eq_true (by omega : xs.length ≤ 6)]), hB⟩
      · go_wp2
        go_ret
        exact ⟨ret_bool (by rw [Hy.out, decide_eq_false (by omega : ¬ xs.length ≤ 6)]), hB⟩
set_option maxHeartbeats 8000000 in
theorem spec_Opened0 (v : Value) (xs : List Entry) (o : Int) (w : World) (h : Entrys w v xs) :
    Calls Tryz.prog 68 #[v, .int .i64 o] w fun e w' => e = .returned (.int .i64 (openedC xs o)) ∧ Below w.heap.size w w' := by
  have h0 := h
  obtain ⟨ad, cap, rfl, hl, hm, hc⟩ := h.open
  clear h
  have hlen : xs.length ≤ 9223372036854775807 := by omega
  have HC := hid hc
  clear hc
  cases hO : openOk xs with
  | false =>
    have Hn := hid (show openedC xs o = -1 by unfold openedC; rw [hO]; rfl)
    go_enter Tryz.func68, Tryz.ntmps68
    go_wp2
    go_loopw [5] (fun i wr => i = .int .i64 0 ∧ Below w.heap.size w wr) (fun i _ => xs.length - (intOf i).toNat)
    case atStart => exact ⟨rfl, Below.refl _ _⟩
    case round =>
      obtain ⟨rfl, hB⟩ := hrel
      by_cases hlt : (0 : Int) < (xs.length : Int)
      · have h1 := Entrys.below h0 hB
        go_wp2_with fail
        refine (spec_OpenOk _ xs _ h1).mono ?_
        rintro e w2 ⟨rfl, hB1⟩
        rw [hO]
        have hB2 := hB.trans (hB1.mono hB.size)
        go_wp2
        go_ret
        exact ⟨ret_int Hn.out.symm, hB2⟩
      · go_wp2
        go_ret
        exact ⟨ret_int Hn.out.symm, hB⟩
  | true =>
    have Hy := hid (show openedC xs o = placeC xs o by unfold openedC; rw [hO]; rfl)
    go_enter Tryz.func68, Tryz.ntmps68
    go_wp2
    go_loopw [5] (fun i wr => ∃ k : Nat, k ≤ xs.length ∧ i = .int .i64 k ∧ Same (placeFrom xs o k) (placeC xs o) ∧ Below w.heap.size w wr) (fun i _ => xs.length - (intOf i).toNat)
    case atStart => exact ⟨0, by omega, rfl, .rfl, Below.refl _ _⟩
    case round =>
      obtain ⟨k, hk, rfl, hS, hB⟩ := hrel
      by_cases hlt : k < xs.length
      · have h1 := Entrys.below h0 hB
        have hst := hid (placeFrom_step xs o k hlt)
        go_wp2_with fail
        refine (spec_OpenOk _ xs _ h1).mono ?_
        rintro e w2 ⟨rfl, hB1⟩
        rw [hO]
        have hB2 := hB.trans (hB1.mono hB.size)
        obtain ⟨bb, off, rfl, hbs, c0, -⟩ := HC.out k hlt
        have g0 := (hB2.cell (p := ⟨bb, off + k * 5, none⟩) hbs).trans c0
        clear c0 HC h0 h1
        by_cases heq : xs[k].object_ = o
        · go_wp2
          go_ret
          exact ⟨ret_int (by rw [Hy.out, ← hS.out, hst.out, if_pos heq]), hB2⟩
        · go_wp2
          go_roundw
          case rel => exact ⟨k+1, by omega, by go_num, Same.mk (by have h9 := hst.out; rw [if_neg heq] at h9; rw [← h9]; exact hS.out), hB2⟩
          case measure => simp [intOf]; omega
      · have He := hid (placeFrom_end xs o k hlt)
        go_wp2
        go_ret
        exact ⟨ret_int (by rw [Hy.out, ← hS.out, He.out]), hB⟩
set_option maxHeartbeats 2000000 in
theorem spec_l6Copy (v : Value) (xs : List Entry) (w : World) (h : Entrys w v xs) (hx : xs.length ≤ 1048576) :
    Calls Tryz.prog 72 #[v] w fun e w' => ∃ v', e = .returned v' ∧ w'.ownsRow w.heap.size 121 5 v' xs.length (xs.flatMap Entry.enc) ∧ Below w.heap.size w w' := by
  obtain ⟨i0, hi, hz0, hz1, hz2⟩ := info_parts infoEntry
  have hone := hid (oneCell_enc (f := Entry.enc) (by intro x c hc; simp [Entry.enc] at hc; rcases hc with rfl | rfl | rfl | rfl | rfl <;> rfl) xs)
  obtain ⟨ad, cap, rfl, hl, hm⟩ := Flat.form h
  have hown : (w.alloc (.cells #[] 121)).ownsRow w.heap.size 121 5 (.slice (some ⟨w.heap.size, 0, none⟩) 0 0) 0 [] := World.ownsRow_made _ _ _ (Nat.le_refl _) (Nat.zero_le _) rfl
  have hB : Below w.heap.size w (w.alloc (.cells #[] 121)) := (Below.refl _ _).alloc (Nat.le_refl _) _
  have h2 := Flat.below h hB
  go_enter Tryz.func72, Tryz.ntmps72
  go_wp2_with (at_builtin; refine wpList_append_flat rfl _ _ 79 rfl w.heap.size 121 i0 (.agg #[.int .i64 0, .int .i64 0, .int .i64 0, .int .i64 0, .bool false]) 5 40 Tryz.underlying79 hi hz0 hz1 hz2 rfl (by decide) _ _ _ rfl hown _ _ _ rfl h2 hone.out (by unfold maxLen; omega) (by omega) (by simp) ?_)
  intro v' w1 ho hg
  have hB1 := hB.trans (below_of_mark hown hg (Nat.le_refl _) (by simp))
  go_wp2
  go_ret
  exact ⟨_, rfl, by simpa using ho, hB1⟩
end Go.Proofs.YtbbdchlabdilcabGreat
