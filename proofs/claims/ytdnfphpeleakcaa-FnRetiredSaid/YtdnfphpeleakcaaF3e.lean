/- Chapter 3: a pass, by what is kept. -/
import Derived.Test.YtdnfphpeleakcaaI3b
import Derived.Test.YtdnfphpeleakcaaBox
import Derived.Laws.LoneSync
import Derived.Laws.Pointers
import Derived.Test.YtdnfphpeleakcaaF3d
import Derived.Test.YtdnfphpeleakcaaKm
/- Chapter 3's program: watchers. -/
namespace Go.Proofs.Ytdnfphpeleakcaa
set_option maxRecDepth 100000
open Go.RowKit Go.Proofs Go.Own
open Go
set_option linter.unusedVariables false
set_option linter.unusedSimpArgs false

def watchB (p x : Int) : Bool := x != -1 && decide (x ≤ p)
def watchN (ps : List Int) (p : Int) (k : Nat) : Int := ((ps.take k).countP (watchB p) : Nat)
theorem watchN_succ (ps : List Int) (p : Int) (k : Nat) (hk : k < ps.length) (x : Int) (hx : ps[k] = x) : watchN ps p (k + 1) = watchN ps p k + if watchB p x = true then 1 else 0 := by
  simp only [watchN, countP_take_succ _ _ _ hk, hx]; split <;> simp
theorem watchN_le (ps : List Int) (p : Int) (k : Nat) : 0 ≤ watchN ps p k ∧ watchN ps p k ≤ k := by
  have : (ps.take k).countP (watchB p) ≤ k := Nat.le_trans List.countP_le_length (List.length_take_le _ _)
  simp only [watchN]; omega

theorem impl_add (b : Nat) (x y : Int) (w : World) (hc : w.cell? ⟨b, 0, none⟩ = some (.int .i64 x)) (hf : w.frozen? ⟨b, 0, none⟩ = false) (hs : IntKind.i64.wrap (x + y) = x + y) :
    Calls Try.prog 82 #[.pointer (some ⟨b, 0, none⟩), .int .i64 y] w fun e w' => e = .returned (.int .i64 (x + y)) ∧ w' = w.setCell ⟨b, 0, none⟩ (.int .i64 (x + y)) := by
  have h := run_call_add (P := Try.prog) Try.func99 (by kernel_rfl) (by kernel_rfl) (by kernel_rfl) .i64 (by kernel_rfl) (x := x) (y := y) (s := x + y) hc hf (by simp [Op.intArith, hs])
  go_enter Try.func82, Try.ntmps82
  go_wp2
  go_ret
  exact ⟨rfl, rfl⟩
theorem impl_load (b : Nat) (x : Int) (w : World) (hc : w.cell? ⟨b, 0, none⟩ = some (.int .i64 x)) :
    Calls Try.prog 83 #[.pointer (some ⟨b, 0, none⟩)] w fun e w' => e = .returned (.int .i64 x) ∧ w = w' := by
  have h := run_call_load (P := Try.prog) Try.func100 (by kernel_rfl) (by kernel_rfl) (by kernel_rfl) .i64 (by kernel_rfl) hc
  go_enter Try.func83, Try.ntmps83
  go_wp2
  go_ret
  exact ⟨rfl, rfl⟩

set_option maxRecDepth 100000 in set_option maxHeartbeats 2000000 in
theorem impl_watchers (v : Value) (ps : List Int) (p : Int) (w : World) (h : Ints w v ps) (hl6 : ps.length ≤ 1000) :
    Calls Try.prog 46 #[v, .int .i64 p] w fun e w' => e = .returned (.int .i64 (watchN ps p ps.length)) ∧ Below w.heap.size w w' := by
  obtain ⟨a, cap, rfl, hl, hm⟩ := h.form
  obtain ⟨W1, hW1⟩ : ∃ X, (w.alloc (.cells #[.int .i64 0] 104)) = X := ⟨_, rfl⟩
  have hB1 : Below w.heap.size w W1 := by rw [← hW1]; exact (Below.refl _ _).alloc (Nat.le_refl _) _
  have hN1 : w.heap.size + 1 = W1.heap.size := by rw [← hW1]; simp
  have cb : BoxF W1 w.heap.size [.int .i64 0] := by rw [← hW1]; exact BoxF.alloc _ _ _
  go_enter Try.func46, Try.ntmps46
  go_wp2
  clear hW1
  go_loopw [10] (fun i wr => ∃ k : Nat, k ≤ ps.length ∧ i = .int .i64 k ∧ BoxF wr w.heap.size [.int .i64 (watchN ps p k)] ∧ Below w.heap.size w wr) (fun i _ => ps.length - (intOf i).toNat)
  case atStart => exact ⟨0, by omega, rfl, cb, hB1⟩
  case round =>
    clear cb hB1
    obtain ⟨k, hk, rfl, cb, hB⟩ := hrel
    obtain ⟨c, hc⟩ : ∃ c, Hid (watchN ps p k = c) := ⟨_, hid rfl⟩
    have hle := watchN_le ps p k
    rw [hc.out] at cb hle
    obtain ⟨hle0, hle1⟩ := hle
    have cc := cb.1.2 0 (by simp); have cf := cb.2 0 (by simp)
    simp only [List.getElem?_cons_zero] at cc
    by_cases hlt : k < ps.length
    · obtain ⟨x, hx⟩ : ∃ x, Hid (ps[k] = x) := ⟨_, hid rfl⟩
      have hst := hid (watchN_succ ps p k hlt x hx.out)
      rw [hc.out] at hst
      obtain ⟨bb, off, rfl, hbs, c0⟩ := Ints.at (Ints.below h hB) k hlt
      rw [hx.out] at c0
      cases h1 : (x != -1)
      case false =>
        have hw := hid (show watchB p x = false by simp [watchB, h1])
        have HB := hid hB
        have HC := hid cb
        go_wp2
        go_roundw
        case rel => exact ⟨k+1, by omega, by go_num, by rw [hst.out, hw.out]; simpa using HC.out, HB.out⟩
        case measure => simp [intOf]; omega
      cases h2 : decide (x ≤ p)
      case false =>
        have hw := hid (show watchB p x = false by simp only [watchB, h1, h2]; rfl)
        have HB := hid hB
        have HC := hid cb
        go_wp2
        go_roundw
        case rel => exact ⟨k+1, by omega, by go_num, by rw [hst.out, hw.out]; simpa using HC.out, HB.out⟩
        case measure => simp [intOf]; omega
      case true =>
        have hw := hid (show watchB p x = true by simp only [watchB, h1, h2]; rfl)
        have S0 := hid (cb.set 0 (by simp) (.int .i64 (c + 1)))
        have S1 := hid (hB.setCell (p := ⟨w.heap.size, 0, none⟩) (Nat.le_refl _) (.int .i64 (c + 1)))
        have hws : IntKind.i64.wrap (c + 1) = c + 1 := by rw [IntKind.wrap_i64]; omega
        go_wp2_with (first | (go_at_call 82; refine (impl_add _ c 1 _ cc cf hws).mono ?_; rintro e w' ⟨rfl, rfl⟩))
        go_roundw
        case rel => exact ⟨k+1, by omega, by go_num, by rw [hst.out, hw.out]; simpa using S0.out, S1.out⟩
        case measure => simp [intOf]; omega
    · obtain rfl : k = ps.length := by omega
      have HB := hid hB
      go_wp2_with (first | (go_at_call 83; refine (impl_load _ c _ cc).mono ?_; rintro e w' ⟨rfl, rfl⟩))
      go_ret
      exact ⟨ret_int hc.out.symm, HB.out⟩
end Go.Proofs.Ytdnfphpeleakcaa
namespace Go.Proofs.Ytdnfphpeleakcaa
open Go.RowKit Go.Proofs Go.Own
open Go
set_option linter.unusedVariables false
set_option linter.unusedSimpArgs false

theorem least_fold : ∀ (ps : List Int) (m p : Int), p < ps.foldl (fun m p => if 0 ≤ p then min m p else m) m ↔ p < m ∧ ∀ x ∈ ps, 0 ≤ x → p < x
  | [], m, p => by simp
  | x :: ps, m, p => by
    rw [List.foldl_cons, least_fold ps]
    by_cases hx : 0 ≤ x
    · rw [if_pos hx]
      constructor
      · rintro ⟨h1, h2⟩
        refine ⟨by omega, fun y hy h0 => ?_⟩
        rcases List.mem_cons.1 hy with rfl | hy
        · omega
        · exact h2 y hy h0
      · rintro ⟨h1, h2⟩
        have := h2 x (List.mem_cons_self ..) hx
        exact ⟨by omega, fun y hy h0 => h2 y (List.mem_cons_of_mem _ hy) h0⟩
    · rw [if_neg hx]
      constructor
      · rintro ⟨h1, h2⟩
        refine ⟨h1, fun y hy h0 => ?_⟩
        rcases List.mem_cons.1 hy with rfl | hy
        · omega
        · exact h2 y hy h0
      · rintro ⟨h1, h2⟩
        exact ⟨h1, fun y hy h0 => h2 y (List.mem_cons_of_mem _ hy) h0⟩
theorem least_lt (ps : List Int) (p : Int) : p < leastF ps ↔ p < 1000001 ∧ ∀ x ∈ ps, 0 ≤ x → p < x := by
  rw [show leastF ps = ps.foldl (fun m p => if 0 ≤ p then min m p else m) 1000001 by rw [← leastAt_all, leastAt, List.take_length]]
  exact least_fold ps 1000001 p
theorem watch_least (ps : List Int) (p : Int) (hp : p ≤ 1000000) (hge : ∀ x ∈ ps, -1 ≤ x) : watchN ps p ps.length = 0 ↔ p < leastF ps := by
  rw [least_lt]
  simp only [watchN, List.take_length]
  have h0 : ((ps.countP (watchB p) : Nat) : Int) = 0 ↔ ∀ x ∈ ps, ¬ watchB p x = true := by
    rw [← List.countP_eq_zero]; omega
  rw [h0]
  constructor
  · intro h
    refine ⟨by omega, fun x hx h0 => ?_⟩
    have := h x hx
    simp only [watchB, Bool.and_eq_true, bne_iff_ne, ne_eq, decide_eq_true_eq, not_and] at this
    have := this (by omega)
    omega
  · rintro ⟨_, h⟩ x hx
    have h1 := hge x hx
    have h2 := h x hx
    simp only [watchB, Bool.and_eq_true, bne_iff_ne, ne_eq, decide_eq_true_eq, not_and]
    intro h3
    have := h2 (by omega)
    omega
/-- The places that are still kept before the round K. -/
def keepS (gs : List Gone) (L : Int) (K : Nat) : Nat → Bool := fun j => !(decide (j < K) && decide ((gs.getD j zeroG).pass_ < L))
theorem keepS_zero (gs : List Gone) (L : Int) (j : Nat) : keepS gs L 0 j = true := by simp [keepS]
theorem keepS_del (gs : List Gone) (L : Int) (K : Nat) (hk : K < gs.length) (g : Gone) (hg : gs[K] = g) (hp : g.pass_ < L) (j : Nat) : (j != K && keepS gs L K j) = keepS gs L (K + 1) j := by
  simp only [keepS]
  by_cases e : j = K
  · subst e
    have : (gs.getD j zeroG).pass_ < L := by rw [List.getD, List.getElem?_eq_getElem hk, Option.getD_some, hg]; exact hp
    rw [decide_eq_true this]; simp
  · have h1 : (j != K) = true := by simpa using e
    have h2 : decide (j < K + 1) = decide (j < K) := by rw [Bool.eq_iff_iff]; simp; omega
    rw [h1, h2, Bool.true_and]
theorem keepS_keep (gs : List Gone) (L : Int) (K : Nat) (hk : K < gs.length) (g : Gone) (hg : gs[K] = g) (hp : ¬ g.pass_ < L) (j : Nat) : keepS gs L K j = keepS gs L (K + 1) j := by
  simp only [keepS]
  by_cases e : j = K
  · subst e
    have : ¬ (gs.getD j zeroG).pass_ < L := by rw [List.getD, List.getElem?_eq_getElem hk, Option.getD_some, hg]; exact hp
    rw [decide_eq_false this]; simp
  · have h2 : decide (j < K + 1) = decide (j < K) := by rw [Bool.eq_iff_iff]; simp; omega
    rw [h2]
theorem pass_filter (y : Yard) : ∀ k, k ≤ y.retired.length → (passAt y k).2.1 = (y.retired.take k).filter (fun g => !decide (g.pass_ < leastF y.pins)) ∧ (passAt y k).2.2 = (k : Int) - ((y.retired.take k).filter (fun g => !decide (g.pass_ < leastF y.pins))).length
  | 0, _ => by simp [passAt_zero]
  | k + 1, h => by
    obtain ⟨h1, h2⟩ := pass_filter y k (by omega)
    rw [passAt_succ y k (by omega) _ rfl, List.take_add_one, List.getElem?_eq_getElem (by omega), Option.toList_some, List.filter_append]
    simp only [passStep]
    by_cases hp : y.retired[k].pass_ < leastF y.pins
    · rw [if_pos hp, List.filter_cons_of_neg (by simpa using hp), List.filter_nil, List.append_nil]
      exact ⟨h1, by dsimp only; rw [h2]; omega⟩
    · rw [if_neg hp, List.filter_cons_of_pos (by simpa using hp), List.filter_nil]
      refine ⟨by dsimp only; rw [h1], ?_⟩
      dsimp only
      rw [h2, List.length_append, List.length_singleton]; omega
theorem range_getD (gs : List Gone) : (List.range gs.length).map (fun i => gs.getD i zeroG) = gs := by
  apply List.ext_getElem (by simp)
  intro i h1 h2
  rw [List.getElem_map, List.getElem_range, List.getD, List.getElem?_eq_getElem h2, Option.getD_some]
theorem keptGs_keep (gs : List Gone) (L : Int) : keptGs gs (keepS gs L gs.length) gs.length = gs.filter (fun g => !decide (g.pass_ < L)) := by
  have e : keptAt (keepS gs L gs.length) gs.length = (List.range gs.length).filter ((fun g : Gone => !decide (g.pass_ < L)) ∘ fun i => gs.getD i zeroG) := by
    refine List.filter_congr fun i hi => ?_
    have := List.mem_range.1 hi
    simp only [keepS, Function.comp, decide_eq_true this, Bool.true_and]
  rw [keptGs, e, ← List.filter_map, range_getD]
theorem pass_kept (y : Yard) : (passAt y y.retired.length).2.1 = keptGs y.retired (keepS y.retired (leastF y.pins) y.retired.length) y.retired.length ∧ (passAt y y.retired.length).2.2 = (y.retired.length : Int) - (keptGs y.retired (keepS y.retired (leastF y.pins) y.retired.length) y.retired.length).length := by
  have := pass_filter y y.retired.length (Nat.le_refl _)
  rw [List.take_length] at this
  rw [keptGs_keep]
  exact this
theorem kept_size {D : DG} {gs : List Gone} {S : Nat → Bool} (h : Kept D gs S gs.length) : Maps.size D = (keptGs gs S gs.length).length := by
  rw [h.size, keptGs, List.length_map, keptAt, List.countP_eq_length_filter]
theorem gone_pass_le {bs : List Block} {ls ps : List Int} {gs : List Gone} {n : Int} (h : yardOk ⟨⟨bs, ls⟩, ps, gs, n⟩ = true) (k : Nat) (hk : k < gs.length) (g : Gone) (hg : gs[k] = g) : g.pass_ ≤ 1000000 := by
  simp only [yardOk, Bool.and_eq_true] at h
  have h1 := List.all_eq_true.1 h.2 k (List.mem_range.2 hk)
  have h2 := h.1.1.1.1.2
  simp only [goneOk, List.getD, List.getElem?_eq_getElem hk, Option.getD_some, hg, Bool.and_eq_true, inB, decide_eq_true_eq] at h1 h2
  omega

theorem owns_notMap {w : World} {base e sz n b m k : Nat} {v : Value} {cs : List Value} {H : Type} {P : Program} {R : Value → Option (DataW H × List MemPlace)} {D : DataW H} (h : w.ownsRow base e sz v n cs) (hm : w.ownsMap P k R b m D) : v.ownBlock = none ∨ v.ownBlock ≠ some b := by
  obtain ⟨es, clock, hb, _⟩ := hm
  rcases h.2 with ⟨rfl, _⟩ | ⟨g, cap, cur, rfl, _, hg, _⟩
  · exact .inl rfl
  · refine .inr fun e' => ?_
    simp only [Value.ownBlock, Option.some.injEq] at e'
    subst e'
    rw [hb] at hg
    cases hg
end Go.Proofs.Ytdnfphpeleakcaa
