/- Chapter 2's program: small functions, sets of places. -/
import Derived.Test.YtdnfphpeleakcaaF2
import Derived.Test.YtdnfphpeleakcaaArr
import Derived.Test.YtdnfphpeleakcaaS2a
namespace Go.Proofs.Ytdnfphpeleakcaa
set_option maxRecDepth 100000
open Go.RowKit Go.Proofs Go.Own
set_option linter.unusedVariables false
set_option linter.unusedSimpArgs false

theorem impl_isValue (x : Int) (w : World) :
    Calls Try.prog 106 #[.int .i64 x] w fun e w' => e = .returned (.bool (isVal x)) ∧ w = w' := by
  go_enter Try.func106, Try.ntmps106
  go_wp2
  all_goals go_ret
  all_goals (simp [isVal, inB, *]; try omega)

theorem impl_allValues (v : Value) (xs : List Int) (w : World) (h : Ints w v xs) :
    Calls Try.prog 96 #[v] w fun e w' => e = .returned (.bool (allIn xs (-1000000000) 1000000000 0)) ∧ w = w' := by
  obtain ⟨ad, cap, rfl, hl, hm, hc⟩ := h.open
  have hlen : xs.length ≤ 9223372036854775807 := by omega
  go_enter Try.func96, Try.ntmps96
  go_wp2
  go_loop [7] (fun i => ∃ k : Nat, k ≤ xs.length ∧ i = .int .i64 k ∧ Same (allIn xs (-1000000000) 1000000000 0) (allIn xs (-1000000000) 1000000000 k)) (fun i => xs.length - (intOf i).toNat)
  case atStart => exact ⟨0, by omega, rfl, .rfl⟩
  case round =>
    obtain ⟨k, hk, rfl, hall⟩ := hrel
    by_cases hlt : k < xs.length
    · obtain ⟨bb, off, rfl, hbs, hcell⟩ := hc k hlt
      have hst := hid (allIn_step xs (-1000000000) 1000000000 k hlt)
      clear hc
      go_wp2_with ((go_at_call 106; refine (impl_isValue _ _).mono ?_; rintro e w' ⟨rfl, rfl⟩))
      · have hf : (!isVal xs[k]) = true := by assumption
        go_ret
        exact ⟨ret_bool (by rw [hall.out, hst.out]; simp [isVal] at hf; simp [hf]), rfl⟩
      · have hf : (!isVal xs[k]) = false := by assumption
        go_round
        case rel => exact ⟨k+1, by omega, by go_num, .mk (by rw [hall.out, hst.out]; simp [isVal] at hf; simp [hf])⟩
        case measure => simp [intOf]; omega
    · have hst := hid (allIn_end xs (-1000000000) 1000000000 k hlt)
      go_wp2
      go_ret
      exact ⟨ret_bool (by rw [hall.out, hst.out]), rfl⟩
theorem allIn_3 (x0 x1 x2 : Int) : allIn [x0, x1, x2] (-1000000000) 1000000000 0 = (isVal x0 && (isVal x1 && isVal x2)) := by simp [allIn, isVal]

theorem impl_blockOk (o : Block) (w : World) :
    Calls Try.prog 77 #[o.val] w fun e w' => e = .returned (.bool (blockOk o)) ∧ Below w.heap.size w w' := by
  obtain ⟨g, fr, x0, x1, x2⟩ := o
  unfold Block.val
  dsimp only
  have hbOut : Hid (blockOk ⟨g, fr, x0, x1, x2⟩ = (inB g 0 5 && !(!fr && decide (g = 5)) && (isVal x0 && (isVal x1 && isVal x2)))) := hid (by simp [blockOk, Block.words, Bool.and_assoc])
  obtain ⟨W, hW⟩ : ∃ X, w.alloc (.cells #[.int .i64 g, .bool fr, .int .i64 x0, .int .i64 x1, .int .i64 x2] 64) = X := ⟨_, rfl⟩
  have hB : Below w.heap.size w W := by rw [← hW]; exact Below.alloc (Below.refl _ _) (by simp) _
  have hw : Ints W (.slice (some ⟨w.heap.size, 2, none⟩) 3 3) [x0, x1, x2] := by
    rw [← hW]
    refine ⟨rfl, _, _, rfl, by simp, by simp, (by intro e; cases e), .inr ⟨_, _, rfl, by simp, fun j hj => ?_⟩⟩
    have hj3 : j < 3 := hj
    rw [World.cell?_alloc_new]
    match j, hj3 with
    | 0, _ => rfl
    | 1, _ => rfl
    | 2, _ => rfl
  have k0 : W.cell? ⟨w.heap.size, 0, none⟩ = some (.int .i64 g) := by rw [← hW]; simp [go_sem]
  have k1 : W.cell? ⟨w.heap.size, 1, none⟩ = some (.bool fr) := by rw [← hW]; simp [go_sem]
  go_enter Try.func77, Try.ntmps77
  all_goals cases fr
  all_goals cases h0 : decide (g < 0)
  all_goals cases h1 : decide (5 < g)
  all_goals cases h3 : (isVal x0 && (isVal x1 && isVal x2))
  all_goals cases h4 : decide (g < 5)
  all_goals go_wp2_with (first | (go_at_call 96; refine (impl_allValues _ _ _ hw).mono ?_; rintro e w' ⟨rfl, rfl⟩; rw [allIn_3]))
  all_goals go_ret
  all_goals exact ⟨ret_bool (by rw [hbOut.out, h3]; clear hbOut h3 hw k0 k1 hW; simp at h0 h1 h4; simp [inB]; try omega), hB⟩

/-- A list of places: all in 0 .. 23, none twice: what holds up to k. -/
def plOk (ls : List Int) (k : Nat) : Bool := inB (ls.getD k 0) 0 23 && !hasFrom (ls.take k) (ls.getD k 0) 0
def placesOk (ls : List Int) : Bool := (List.range ls.length).all (plOk ls)
def plPre (ls : List Int) (k : Nat) : Prop := ∀ j, j < k → plOk ls j = true
theorem plPre_succ {ls : List Int} {k : Nat} (h : plPre ls k) (hb : plOk ls k = true) : plPre ls (k+1) := by
  intro j hjk
  by_cases e : j = k
  · subst e; exact hb
  · exact h j (by omega)
theorem placesOk_end {ls : List Int} (h : plPre ls ls.length) : placesOk ls = true := by
  rw [placesOk, List.all_eq_true]; intro j hj; exact h j (List.mem_range.1 hj)
theorem placesOk_no {ls : List Int} {k : Nat} (hk : k < ls.length) (h : plOk ls k = false) : placesOk ls = false := by
  rw [placesOk, List.all_eq_false]; exact ⟨k, List.mem_range.2 hk, by simp [h]⟩
theorem plOk_at {ls : List Int} {k : Nat} (hk : k < ls.length) (p : Int) (hp : ls[k] = p) : plOk ls k = (inB p 0 23 && !hasFrom (ls.take k) p 0) := by
  have e : ls.getD k 0 = p := by rw [List.getD, List.getElem?_eq_getElem hk]; exact hp
  simp only [plOk]; rw [e]
def zB : List Bool := List.replicate 24 false
def markF (ls : List Int) (k : Nat) : List Bool := (List.range 24).map fun p : Nat => hasFrom (ls.take k) p 0
def setF (ls : List Int) : List Bool := if placesOk ls = true then markF ls ls.length else zB
theorem setF_no {ls : List Int} (h : placesOk ls = false) : setF ls = zB := by simp [setF, h]
theorem setF_yes {ls : List Int} (h : placesOk ls = true) : setF ls = markF ls ls.length := by simp [setF, h]
theorem markF_len (ls : List Int) (k : Nat) : (markF ls k).length = 24 := by simp [markF]
theorem setF_len (ls : List Int) : (setF ls).length = 24 := by unfold setF; split <;> simp [markF_len, zB]
theorem markF_get (ls : List Int) (k p : Nat) (hp : p < 24) : (markF ls k)[p]? = some (hasFrom (ls.take k) p 0) := by simp [markF, hp]
theorem markF_zero (ls : List Int) : markF ls 0 = zB := by
  apply List.ext_getElem?; intro i
  by_cases h : i < 24
  · rw [markF_get _ _ _ h, zB, List.getElem?_replicate, if_pos h]; simp [hasFrom]
  · rw [List.getElem?_eq_none (by rw [markF_len]; omega), List.getElem?_eq_none (by simp [zB]; omega)]
theorem hasFrom_snoc (at_ : List Int) (k : Nat) (x : Int) (h : k < at_.length) : hasFrom (at_.take (k+1)) x 0 = (hasFrom (at_.take k) x 0 || (at_[k] == x)) := by
  simp only [hasFrom, List.drop_zero]
  rw [List.take_add_one, List.getElem?_eq_getElem h, Option.toList_some, Bool.eq_iff_iff]
  simp only [List.mem_append, List.mem_singleton, decide_eq_true_eq, Bool.or_eq_true, beq_iff_eq]
  constructor
  · rintro (e | e)
    · exact .inl e
    · exact .inr e.symm
  · rintro (e | e)
    · exact .inl e
    · exact .inr e.symm
theorem markF_succ (ls : List Int) (k j : Nat) (hk : k < ls.length) (hj : ls[k] = j) (hj2 : j < 24) : markF ls (k+1) = (markF ls k).set j true := by
  apply List.ext_getElem?; intro i
  rw [List.getElem?_set]
  by_cases h : i < 24
  · rw [markF_get _ _ _ h, hasFrom_snoc _ _ _ hk, hj]
    by_cases e : j = i
    · subst e; simp [markF_len, h]
    · rw [if_neg e, markF_get _ _ _ h]
      have : ((j : Int) == (i : Int)) = false := by simp; omega
      rw [this, Bool.or_false]
  · rw [List.getElem?_eq_none (by rw [markF_len]; omega)]
    rw [if_neg (by omega), List.getElem?_eq_none (by rw [markF_len]; omega)]

theorem run_sizeBool (w : World) : (sizeOf 4).run Try.prog w = .ok 1 w := by kernel_rfl
theorem infoSet : (Try.prog.info? 93).map (·.size) = some 24 := by kernel_rfl

set_option maxHeartbeats 2000000 in
theorem impl_setOfPlaces (v : Value) (ls : List Int) (w : World) (h : Ints w v ls) :
    Calls Try.prog 78 #[v] w fun e w' => e = .returned (.tuple #[.agg (encBs (setF ls)), .bool (placesOk ls)]) ∧ Below w.heap.size w w' := by
  obtain ⟨ad, cap, rfl, hl, hm, hc⟩ := h.open
  have hlen : ls.length ≤ 9223372036854775807 := by omega
  obtain ⟨W, hW⟩ : ∃ X, (w.alloc (.cells #[Value.bool false, Value.bool false, Value.bool false, Value.bool false, Value.bool false, Value.bool false, Value.bool false, Value.bool false, Value.bool false, Value.bool false, Value.bool false, Value.bool false, Value.bool false, Value.bool false, Value.bool false, Value.bool false, Value.bool false, Value.bool false, Value.bool false, Value.bool false, Value.bool false, Value.bool false, Value.bool false, Value.bool false] 93)).alloc (.cells #[Value.bool false, Value.bool false, Value.bool false, Value.bool false, Value.bool false, Value.bool false, Value.bool false, Value.bool false, Value.bool false, Value.bool false, Value.bool false, Value.bool false, Value.bool false, Value.bool false, Value.bool false, Value.bool false, Value.bool false, Value.bool false, Value.bool false, Value.bool false, Value.bool false, Value.bool false, Value.bool false, Value.bool false] 93) = X := ⟨_, rfl⟩
  have hB : Below w.heap.size w W := by rw [← hW]; exact Below.alloc (Below.alloc (Below.refl _ _) (by simp) _) (by simp) _
  have hS := hid (show W.heap.size = w.heap.size + 2 by rw [← hW]; simp)
  have r0 : RowB W w.heap.size (zB) := by rw [← hW]; exact (RowB.alloc w (zB) 93 _ rfl).below (Below.alloc (Below.refl _ _) (by simp) _)
  have r1 : RowB W (w.heap.size + 1) (markF ls 0) := by
    rw [← hW, markF_zero]
    have hs : (w.alloc (.cells #[Value.bool false, Value.bool false, Value.bool false, Value.bool false, Value.bool false, Value.bool false, Value.bool false, Value.bool false, Value.bool false, Value.bool false, Value.bool false, Value.bool false, Value.bool false, Value.bool false, Value.bool false, Value.bool false, Value.bool false, Value.bool false, Value.bool false, Value.bool false, Value.bool false, Value.bool false, Value.bool false, Value.bool false] 93)).heap.size = w.heap.size + 1 := by simp
    rw [← hs]
    exact RowB.alloc _ _ _ _ rfl
  go_enter Try.func78, Try.ntmps78
  go_wp2
  clear hW
  go_loopw [9] (fun i wr => ∃ k : Nat, k ≤ ls.length ∧ i = .int .i64 k ∧ plPre ls k ∧ RowB wr w.heap.size (zB) ∧ RowB wr (w.heap.size + 1) (markF ls k) ∧ Below w.heap.size w wr) (fun i _ => ls.length - (intOf i).toNat)
  case atStart => exact ⟨0, by omega, rfl, (by intro j h; omega), r0, r1, hB⟩
  case round =>
    clear r0 r1 hB
    obtain ⟨k, hk, rfl, hpre, r0, r1, hB⟩ := hrel
    by_cases hlt : k < ls.length
    · obtain ⟨bb, off, rfl, hbs, q1⟩ := hc k hlt
      rw [← hB.cell (p := ⟨bb, off + k, none⟩) hbs] at q1
      clear hc
      obtain ⟨p, hp⟩ : ∃ p, Hid (ls[k] = p) := ⟨_, hid rfl⟩
      rw [hp.out] at q1
      have hpl := hid (plOk_at hlt p hp.out)
      have hno := hid (placesOk_no hlt)
      have r0' := r0
      obtain ⟨t0, r0'⟩ := r0'
      have hend : Below w.heap.size w (wr.setRow w.heap.size (encBs (zB))) := below_setRow hB (Nat.le_refl _) _
      have hrow0 := r0.setRow (zB)
      obtain ⟨t9, hrow⟩ := hrow0
      cases e1 : inB p 0 23
      case false =>
        have hno2 := hid (hno.out (by rw [hpl.out, e1]; rfl))
        have hp2 : decide (p < 0) = true ∨ (decide (p < 0) = false ∧ decide (24 ≤ p) = true) := by simp [inB] at e1; by_cases h : p < 0 <;> simp [h]; omega
        rcases hp2 with hp2 | ⟨hp2, hp3⟩
        all_goals
          go_wp2_with (refine wpList_store_row rfl 93 (.tmp 2) (.tmp 24) rfl w.heap.size (encBs (zB)) rfl rfl t0 _ r0' infoSet rfl (encBs_one _) ?_)
        all_goals
          have hld := run_loadVar_row (P := Try.prog) _ _ t9 93 _ (0, 0) _ hrow Try.underlying93 rfl infoSet
          refine bodyPost_ret (v := .tuple #[.agg (encBs (zB)), .bool false]) ?_ rfl ⟨?_, hend⟩
        all_goals first
          | (simp [results, Try.results78, asAddr, hld]; done)
          | (simp [hno2.out, setF_no hno2.out]; done)
      obtain ⟨j, hj, hj24⟩ : ∃ j : Nat, p = j ∧ j < 24 := ⟨p.toNat, by simp [inB] at e1; omega, by simp [inB] at e1; omega⟩
      subst hj
      obtain ⟨hcell, hfr⟩ := r1.cell j _ (markF_get ls k j hj24)
      cases e2 : hasFrom (ls.take k) j 0
      case true =>
        rw [e2] at hcell
        have hno2 := hid (hno.out (by rw [hpl.out, e1, e2]; rfl))
        go_wp2_with (refine wpList_store_row rfl 93 (.tmp 2) (.tmp 24) rfl w.heap.size (encBs (zB)) rfl rfl t0 _ r0' infoSet rfl (encBs_one _) ?_)
        have hld := run_loadVar_row (P := Try.prog) _ _ t9 93 _ (0, 0) _ hrow Try.underlying93 rfl infoSet
        refine bodyPost_ret (v := .tuple #[.agg (encBs (zB)), .bool false]) ?_ rfl ⟨?_, hend⟩
        all_goals first
          | (simp [results, Try.results78, asAddr, hld]; done)
          | (simp [hno2.out, setF_no hno2.out]; done)
      rw [e2] at hcell
      have hyes := plPre_succ hpre (by rw [hpl.out, e1, e2]; rfl)
      have hs1 := r1.set j true
      rw [← markF_succ ls k j hlt hp.out hj24] at hs1
      have hs0 := r0.other ⟨w.heap.size + 1, j, none⟩ (.bool true) (by simp)
      have hB' := hB.setCell (p := ⟨w.heap.size + 1, j, none⟩) (by simp) (.bool true)
      clear r0 r1 hrow r0' hend
      go_wp2
      go_roundw
      case rel => exact ⟨k+1, by omega, by go_num, hyes, hs0, hs1, hB'⟩
      case measure => simp [intOf]; omega
    · obtain rfl : k = ls.length := by omega
      have hfin := hid (placesOk_end hpre)
      obtain ⟨t0, r0'⟩ := r0
      obtain ⟨t1, r1'⟩ := r1
      have hend : Below w.heap.size w (wr.setRow w.heap.size (encBs (markF ls ls.length))) := below_setRow hB (Nat.le_refl _) _
      obtain ⟨t9, hrow⟩ := RowB.setRow ⟨t0, r0'⟩ (markF ls ls.length)
      have hsz : (Try.prog.info? 93).map (·.size) = some (encBs (markF ls ls.length)).size := by rw [encBs_size, markF_len]; exact infoSet
      have hsz2 : (encBs (zB)).size = (encBs (markF ls ls.length)).size := by rw [encBs_size, encBs_size, markF_len]; rfl
      clear hc
      go_wp2_with (first
        | (refine wpList_load_row rfl 93 (.tmp 4) rfl (w.heap.size + 1) rfl t1 _ (0, 0) _ r1' Try.underlying93 rfl hsz ?_)
        | (refine wpList_store_row rfl 93 (.tmp 2) (.tmp 28) rfl w.heap.size (encBs (markF ls ls.length)) rfl rfl t0 _ r0' hsz hsz2 (encBs_one _) ?_))
      have hld := run_loadVar_row (P := Try.prog) _ _ t9 93 _ (0, 0) _ hrow Try.underlying93 rfl hsz
      refine bodyPost_ret (v := .tuple #[.agg (encBs (markF ls ls.length)), .bool true]) ?_ rfl ⟨?_, hend⟩
      all_goals first
        | (simp [results, Try.results78, asAddr, hld]; done)
        | (simp [hfin.out, setF_yes hfin.out]; done)
end Go.Proofs.Ytdnfphpeleakcaa
