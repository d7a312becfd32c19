/- Chapter 5's program: Steps, told by a function that takes a yield. -/
import Derived.RangeFuncBox
import Derived.RangeFuncLeaves
import Derived.Shelf.Abstract
import Derived.WalkKit
import Derived.OwnWalkIn
import Derived.TacticsInMore
import Derived.LoopNIn
import Derived.LoopIn
import Derived.Maps.AppendAt
import Derived.Test.YtjcoakgdhiiiaaaI5
import Derived.Test.YtjcoakgdhiiiaaaW5
namespace Go.Proofs.Ytjcoakgdhiiiaaa
set_option maxRecDepth 100000
open Go.RowKit Go.Proofs Go.Own Go.Shelf
set_option linter.unusedVariables false
set_option linter.unusedSimpArgs false
attribute [local go_sem] Oper.semAt_some
/-- Each block of cells of type t lies as it lay. -/
def TyKeep (t : TypeId) (A B : World) : Prop := ∀ (b : Nat) (cs : Array Value) (f : Nat × Nat), A.heap[b]? = some (.cells cs t f) → B.heap[b]? = some (.cells cs t f)
theorem TyKeep.refl (t : TypeId) (A : World) : TyKeep t A A := fun _ _ _ h => h
theorem TyKeep.trans {t : TypeId} {A B C : World} (h : TyKeep t A B) (k : TyKeep t B C) : TyKeep t A C := fun b cs f e => k b cs f (h b cs f e)
theorem TyKeep.grown {t : TypeId} {A B : World} {row : Option Nat} (hg : A.grownBy B row) (hr : ∀ r, row = some r → ∀ cs f, A.heap[r]? ≠ some (.cells cs t f)) : TyKeep t A B := fun b cs f e =>
  (hg.block b (Array.getElem?_eq_some_iff.1 e).1 (fun e2 => hr b e2.symm cs f e)).trans e
theorem TyKeep.alloc (t : TypeId) (A : World) (o : Obj) : TyKeep t A (A.alloc o) := TyKeep.grown (World.grownBy_alloc A o none) (by simp)
theorem TyKeep.putObj (t : TypeId) (A : World) (l : Nat) (o o' : Obj) (h : A.heap[l]? = some o) (ho : o.isCells = false) : TyKeep t A (A.putObj l o') :=
  TyKeep.grown (grownBy_putObj' A l o') (fun r e cs f h2 => by cases e; rw [h] at h2; cases h2; cases ho)
/-- What a round keeps. -/
def KpS (n₀ : Nat) (A B : World) : Prop := Below n₀ A B ∧ TyKeep 56 A B
theorem KpS.t {n₀ : Nat} {A B C : World} (h : KpS n₀ A B) (k : KpS n₀ B C) : KpS n₀ A C := ⟨h.1.trans k.1, h.2.trans k.2⟩
theorem steps_split {xs : List Run} {k : Nat} (hk : k < xs.length) : stepsOf xs = stepsOf (xs.take k) ++ (List.replicate xs[k].many_.toNat xs[k].thread_ ++ stepsOf (xs.drop (k+1))) := by
  conv => lhs; rw [← List.take_append_drop k xs, List.drop_eq_getElem_cons hk]
  unfold stepsOf
  rw [List.flatMap_append, List.flatMap_cons]
theorem steps_pre {xs : List Run} {k j M : Nat} (hk : k < xs.length) (hM : xs[k].many_ = (M : Int)) (hj : j ≤ M) : stepsOf (xs.take k) ++ List.replicate j xs[k].thread_ <+: stepsOf xs := by
  rw [steps_split hk, hM, Int.toNat_natCast, show M = j + (M - j) by omega, ← List.replicate_append_replicate, List.append_assoc]
  exact ⟨List.replicate (M - j) xs[k].thread_ ++ stepsOf (xs.drop (k+1)), by simp⟩
theorem steps_lt {xs : List Run} {k j M : Nat} (hk : k < xs.length) (hM : xs[k].many_ = (M : Int)) (hj : j < M) : (stepsOf (xs.take k) ++ List.replicate j xs[k].thread_).length < (stepsOf xs).length := by
  rw [steps_split hk, hM, Int.toNat_natCast]
  simp
  omega
set_option maxHeartbeats 4000000 in
theorem steps1_in (F : Fence) (n : Nat) (hG : F.fn 44) (hro : F.round = none) (hn : 1 ≤ n) (l Bs n₀ cap : Nat) (ad : Option Addr) (xs : List Run) (hlen : xs.length ≤ 60) (hok : ∀ k, (hk : k < xs.length) → runOk xs[k] = true)
    (J Jx : List Int → World → Prop) (W : World) (hJ : AbidesFrom W.heap.size J)
    (hY : ∀ pre x W1, J pre W1 → pre.length < (stepsOf xs).length → YieldAt F (n - 1) Try.prog l #[.int .i64 x] W1 fun e W' =>
      (e = .returned (.bool true) ∧ J (pre ++ [x]) W' ∧ KpS n₀ W1 W') ∨ (e = .returned (.bool false) ∧ Jx (pre ++ [x]) W'))
    (hn₀ : n₀ ≤ W.heap.size) (hBs : W.cell? ⟨Bs, 0, none⟩ = some (.slice ad xs.length cap))
    (hc : ∀ k, (hk : k < xs.length) → ∃ b off, ad = some ⟨b, off, none⟩ ∧ b < n₀ ∧ W.cell? ⟨b, off + k * 2, none⟩ = some (.int .i64 xs[k].thread_) ∧ W.cell? ⟨b, off + k * 2 + 1, none⟩ = some (.int .i64 xs[k].many_)) (h0 : J [] W) :
    CallsIn F n Try.prog 44 #[.func (.yield l) #[] #[], .pointer (some ⟨Bs, 0, none⟩)] W fun e W' => (∃ v, e = .returned v) ∧
      ((∃ ys, ys = stepsOf xs ∧ J ys W') ∨ (∃ pre, pre <+: stepsOf xs ∧ Jx pre W')) := by
  have HC := hid hc
  have HO := hid hok
  have HY := hid hY
  have HJ := hid hJ
  clear hc hok hY hJ
  have hlen2 : xs.length ≤ 9223372036854775807 := by omega
  refine callsIn_of_wp Try.func44 rfl hG ?_ hro
  simp only [Try.ntmps44, List.size_toArray, List.length_cons, List.length_nil, Nat.reduceAdd, Nat.reduceSub, Array.replicate_succ, Array.replicate_zero, List.push_toArray, List.append_toArray, List.nil_append, List.cons_append]
  gi_wp2
  gi_loopw [7] (fun i wr => ∃ k : Nat, k ≤ xs.length ∧ i = .int .i64 k ∧ J (stepsOf (xs.take k)) wr ∧ Below n₀ W wr) (fun i _ => xs.length - (intOf i).toNat)
  case atStart => exact ⟨0, by omega, rfl, by simpa [stepsOf] using h0, Below.refl _ _⟩
  case round =>
    clear h0
    obtain ⟨k, hk, rfl, hJs, hB⟩ := hrel
    by_cases hlt : k < xs.length
    · obtain ⟨bb, off, rfl, hbs, c0, c1⟩ := HC.out k hlt
      have hr := runOk_many (HO.out k hlt)
      have e0 := (hB.cell (p := ⟨bb, off + k * 2, none⟩) hbs).trans c0
      have e1 := (hB.cell (p := ⟨bb, off + k * 2 + 1, none⟩) hbs).trans c1
      obtain ⟨M, hM⟩ := Int.eq_ofNat_of_zero_le (by omega : 0 ≤ xs[k].many_)
      rw [hM] at e1
      have hM5 : M ≤ 500 := by omega
      have HM := hid hM
      have hs := hB.size
      obtain ⟨W9, hW9⟩ : ∃ X, X = wr := ⟨_, rfl⟩
      subst hW9
      obtain ⟨W1, hW1⟩ : ∃ X, W9.alloc (.cells #[Value.int .i64 xs[k].thread_, Value.int .i64 M] 56) = X := ⟨_, rfl⟩
      have hB1 : Below n₀ W W1 := by rw [← hW1]; exact hB.alloc (Nat.le_trans hn₀ hs) _
      have hJ1 : J (stepsOf (xs.take k) ++ List.replicate 0 xs[k].thread_) W1 := by rw [← hW1, List.replicate_zero, List.append_nil]; exact HJ.out _ _ _ none hJs (World.grownBy_alloc W9 _ none) (by simp)
      have hbk : W1.heap[W9.heap.size]? = some (.cells #[Value.int .i64 xs[k].thread_, Value.int .i64 M] 56 (0, 0)) := by rw [← hW1]; exact World.alloc_heap_new W9 _
      have g0 := cell_of_row W1 W9.heap.size 0 _ _ _ hbk
      have g1 := cell_of_row W1 W9.heap.size 1 _ _ _ hbk
      clear c0 c1 hr hM HC HO
      gi_wp2
      clear hW1 g0 g1
      gi_loopw [13] (fun i wr => ∃ j : Nat, j ≤ M ∧ i = .int .i64 j ∧ J (stepsOf (xs.take k) ++ List.replicate j xs[k].thread_) wr ∧ wr.heap[W9.heap.size]? = some (.cells #[Value.int .i64 xs[k].thread_, Value.int .i64 M] 56 (0, 0)) ∧ Below n₀ W wr) (fun i _ => M - (intOf i).toNat)
      case atStart => exact ⟨0, by omega, rfl, hJ1, hbk, hB1⟩
      case round =>
        clear hJ1 hbk hB1
        obtain ⟨j, hj, rfl, hJ2, hbk, hB2⟩ := hrel
        by_cases hj2 : j < M
        · have hj3 : (j : Int) < (M : Int) := by omega
          have g0 := cell_of_row wr W9.heap.size 0 _ _ _ hbk
          have hpre := steps_pre hlt HM.out (show j + 1 ≤ M by omega)
          rw [List.replicate_succ', ← List.append_assoc] at hpre
          have Hpre := hid hpre
          clear hpre
          obtain ⟨fn, tmps, assign, body, hy, hR⟩ := HY.out _ xs[k].thread_ wr hJ2 (steps_lt hlt HM.out hj2)
          gi_wp2
          refine hR.mono ?_
          rintro e W3 (⟨rfl, hJ3, hk3⟩ | ⟨rfl, hJx3⟩)
          · gi_wp2
            go_roundw
            case rel => exact ⟨j+1, by omega, by go_num, by rw [List.replicate_succ', ← List.append_assoc]; exact hJ3, hk3.2 _ _ _ hbk, hB2.trans hk3.1⟩
            case measure => simp [intOf]; omega
          · gi_wp2
            refine bodyPost_ret (results_none rfl _ _ _) rfl ?_
            exact ⟨⟨_, rfl⟩, .inr ⟨_, Hpre.out, hJx3⟩⟩
        · obtain rfl : j = M := by omega
          have hT : stepsOf (xs.take (k+1)) = stepsOf (xs.take k) ++ List.replicate j xs[k].thread_ := by rw [steps_take hlt, HM.out, Int.toNat_natCast]
          rw [← hT] at hJ2
          have Hj := hid hT
          clear hT
          gi_wp2
          go_roundw
          case rel => exact ⟨k+1, by omega, by go_num, hJ2, hB2⟩
          case measure => simp [intOf]; omega
    · obtain rfl : k = xs.length := by omega
      gi_wp2
      go_end0
      exact ⟨⟨_, rfl⟩, .inl ⟨_, rfl, by simpa using hJs⟩⟩
set_option maxHeartbeats 1000000 in
theorem stepsOf_in (F : Fence) (n : Nat) (hH : F.fn 41) (hro : F.round = none) (a : Option Addr) (len cap : Nat) (w : World) :
    CallsIn F n Try.prog 41 #[.slice a len cap] w fun e w' => e = .returned (.func (.func 44) #[] #[.pointer (some ⟨w.heap.size, 0, none⟩)]) ∧ w' = w.alloc (.cells #[.slice a len cap] 35) := by
  refine callsIn_of_wp Try.func41 rfl hH ?_ hro
  simp only [Try.ntmps41, List.size_toArray, List.length_cons, List.length_nil, Nat.reduceAdd, Nat.reduceSub, Array.replicate_succ, Array.replicate_zero, List.push_toArray, List.append_toArray, List.nil_append, List.cons_append]
  gi_wp2
  go_ret
  exact ⟨rfl, rfl⟩
theorem steps_stops (F : Fence) (n : Nat) (hG : F.fn 44) (hro : F.round = none) (hn : 1 ≤ n) (Bs n₀ cap : Nat) (ad : Option Addr) (xs : List Run) (hlen : xs.length ≤ 60) (hok : ∀ k, (hk : k < xs.length) → runOk xs[k] = true) (w : World) (hBs : Bs < w.heap.size) (hn₀ : n₀ ≤ w.heap.size)
    (hb : w.cell? ⟨Bs, 0, none⟩ = some (.slice ad xs.length cap))
    (hc : ∀ k, (hk : k < xs.length) → ∃ b off, ad = some ⟨b, off, none⟩ ∧ b < n₀ ∧ w.cell? ⟨b, off + k * 2, none⟩ = some (.int .i64 xs[k].thread_) ∧ w.cell? ⟨b, off + k * 2 + 1, none⟩ = some (.int .i64 xs[k].many_)) :
    SeqStopsK F n Try.prog 44 #[.pointer (some ⟨Bs, 0, none⟩)] (fun x : Int => #[Value.int .i64 x]) (KpS n₀) (fun ys => ys = stepsOf xs) (fun pre => pre <+: stepsOf xs) (stepsOf xs).length w := fun l J Jx W hW hJ _ hY h0 =>
  steps1_in F n hG hro hn l Bs n₀ cap ad xs hlen hok J Jx W hJ hY (Nat.le_trans hn₀ hW.size) ((hW.cell (p := ⟨Bs, 0, none⟩) hBs).trans hb)
    (fun k hk => by
      obtain ⟨b, off, h1, h2, h3, h4⟩ := hc k hk
      exact ⟨b, off, h1, h2, (hW.cell (p := ⟨b, off + k * 2, none⟩) (Nat.lt_of_lt_of_le h2 hn₀)).trans h3, (hW.cell (p := ⟨b, off + k * 2 + 1, none⟩) (Nat.lt_of_lt_of_le h2 hn₀)).trans h4⟩) h0
set_option maxHeartbeats 4000000 in
theorem impl_StepsW (v : Value) (xs : List Run) (w : World) (h : Runs w v xs) (hx : xs.length ≤ 1048576) :
    Calls Try.prog 22 #[v] w fun e w' => ∃ v' : Value, e = .returned (.tuple #[v', .bool (schedOk xs)]) ∧ w'.ownsRow w.heap.size 3 1 v' (stepsC xs).length ((stepsC xs).flatMap encI) ∧ (stepsC xs).length ≤ 1048576 ∧ Below w.heap.size w w' := by
  have h0 := h
  have HL := hid (stepsC_len xs)
  obtain ⟨ad, cap, rfl, hl, hm, hc⟩ := h.open
  clear h
  have hlen : xs.length ≤ 9223372036854775807 := by omega
  obtain ⟨i0, hi, hz0, hz1, hz2⟩ := info_parts infoInt5
  have HC := hid hc
  clear hc
  refine (callsIn_wide (n := 3)).1 ?_
  refine callsIn_of_wp_marks Try.func22 rfl trivial ?_ rfl
  simp only [Try.ntmps22, List.size_toArray, List.length_cons, List.length_nil, Nat.reduceAdd, Nat.reduceSub, Array.replicate_succ, Array.replicate_zero, List.push_toArray, List.append_toArray, List.nil_append, List.cons_append]
  cases hok : schedOk xs with
  | false =>
    have HS := hid (show stepsC xs = [] by unfold stepsC; rw [hok]; rfl)
    gi_wp2_with (refine ⟨trivial, ?_⟩; gi_at_call 19; refine (callsIn_wide.2 (impl_ScheduleOk _ xs _ h0)).mono ?_; rintro e w1 ⟨rfl, hB⟩; rw [hok])
    exact ⟨_, results_tmp2 rfl _ _ _, .slice none 0 0, rfl, by rw [HS.out]; exact World.ownsRow_nil _ _ _ _, HL.out, hB⟩
  | true =>
    gi_wp2_with (first | (refine ⟨trivial, ?_⟩; gi_at_call 19; refine (callsIn_wide.2 (impl_ScheduleOk _ xs _ h0)).mono ?_; rintro e w1 ⟨rfl, hB⟩; rw [hok]) | (refine ⟨trivial, ?_⟩; gi_at_call 41; refine (stepsOf_in Fence.wide _ trivial rfl _ _ _ _).mono ?_; rintro e w' ⟨rfl, rfl⟩))
    have h60 : xs.length ≤ 60 := by unfold schedOk at hok; simp at hok; exact hok.1
    have hget := okFrom_get xs 0 (by unfold schedOk at hok; simp at hok; exact hok.2)
    have HS := hid (show stepsC xs = stepsOf xs by unfold stepsC; rw [if_pos hok])
    have hbig : (stepsOf xs).length ≤ 1048576 := by rw [← HS.out]; exact HL.out
    have hs1 := hB.size
    have bO := Boxed.new w1 24 (.slice none 0 0)
    have bN := Boxed.new (w1.alloc (.cells #[.slice none 0 0] 24)) 35 (.slice ad xs.length cap)
    rw [World.size_alloc] at bN
    have hB0 : Below w.heap.size w ((w1.alloc (.cells #[.slice none 0 0] 24)).alloc (.cells #[.slice ad xs.length cap] 35)) := (hB.alloc hs1 _).alloc (by simp; omega) _
    have hcs : ∀ k, (hk : k < xs.length) → ∃ b off, ad = some ⟨b, off, none⟩ ∧ b < w.heap.size ∧ ((w1.alloc (.cells #[.slice none 0 0] 24)).alloc (.cells #[.slice ad xs.length cap] 35)).cell? ⟨b, off + k * 2, none⟩ = some (.int .i64 xs[k].thread_) ∧ ((w1.alloc (.cells #[.slice none 0 0] 24)).alloc (.cells #[.slice ad xs.length cap] 35)).cell? ⟨b, off + k * 2 + 1, none⟩ = some (.int .i64 xs[k].many_) := fun k hk => by
      obtain ⟨b, off, h1, h2, h3, h4⟩ := HC.out k hk
      exact ⟨b, off, h1, h2, (hB0.cell (p := ⟨b, off + k * 2, none⟩) h2).trans h3, (hB0.cell (p := ⟨b, off + k * 2 + 1, none⟩) h2).trans h4⟩
    refine wpIn_rangeFunc_ownG rfl (by omega) (gf := 44) (lb := #[.pointer (some ⟨w1.heap.size + 1, 0, none⟩)]) rfl trivial (enters_of Try.func44 (by kernel_rfl) rfl)
      (steps_stops Fence.wide _ trivial rfl (by omega) (w1.heap.size + 1) w.heap.size cap ad xs h60 hget _ (by simp) (by simp; omega) bN.cell hcs) KpS.t (fun W l o o' hl ho hc _ => ⟨belowK_b (by simp; omega) W l o o' hl ho hc (by assumption), TyKeep.putObj _ W l o o' ho hc⟩) (Below.refl _ _) (fun _ => rfl)
      (fun (pre : List Int) W => (∃ v, Boxed W w1.heap.size 24 v ∧ W.ownsRow w.heap.size 3 1 v pre.length (pre.flatMap encI) ∧ True) ∧ Below w.heap.size w W)
      (fun _ _ _ => False)
      (OwnFrom.and (Own.from (holdsRow_own w.heap.size w1.heap.size 24 3 1 (fun (pre : List Int) => pre.length) (fun (pre : List Int) => pre.flatMap encI) (fun _ _ => True)) _) (ownFrom_below (Nat.le_refl _) (by simp; omega)))
      (fun _ _ _ _ _ hs _ _ => hs)
      ⟨⟨_, bO.alloc _, World.ownsRow_nil _ _ _ _, trivial⟩, hB0⟩
      (fun x => { tmps := #[.slice ad xs.length cap, undef, .slice none 0 0, .bool false, .pointer (some ⟨w1.heap.size, 0, none⟩), .int .i64 x, .slice ad xs.length cap, .bool true, .bool false, .slice ad xs.length cap, .func (.func 44) #[] #[.pointer (some ⟨w1.heap.size + 1, 0, none⟩)], .int .i64 x, undef, undef, undef, undef, undef], defers := [] }) ?assign ?body ?done ?stop
    case assign =>
      intro l x W K hK
      gi_wp2
      exact hK
    case body =>
      rintro l pre x W ⟨⟨v, hv, hrow, _⟩, hB5⟩ hlt
      have hc := hv.cell
      clear bO bN hB0 hcs
      gi_wp2_with (gi_at_builtin; refine wpListIn_append_own _ rfl _ _ 24 rfl w.heap.size 3 i0 (.int .i64 0) 1 8 Try.underlying24 hi hz0 hz1 hz2 rfl (by decide) _ _ _ rfl (hrow.alloc _) ⟨W.heap.size, 0, none⟩ 1 1 [.int .i64 x] rfl rfl (cell_one_new _ _ _) (by simp [Value.oneCell']) (by unfold maxLen; omega) (by omega) (by have := hB5.size; simp; omega) ?_; intro v' w2 hown' hgrow _; obtain ⟨g', cap', rfl⟩ := ownsRow_succ hown'; obtain ⟨hv1, hv2, hr2, hk2, hb2⟩ := hv.appended (by decide) hrow hB5.size (Nat.le_trans hs1 (Nat.le_refl _)) hown' hgrow; have hc1 := hv1.cell; have hf1 := hv1.frozen)
      refine ⟨hk2.from _, ⟨hb2, ?_⟩, ⟨_, hv2, by rw [encI_snoc]; simpa using hr2, trivial⟩, hB5.trans hb2⟩
      refine ((TyKeep.alloc _ _ _).trans (TyKeep.grown hgrow ?_)).trans (TyKeep.grown (grownBy_setCell' _ _ _) ?_)
      · intro r hr cs f he
        rcases (hrow.alloc (.cells #[.int .i64 x] 3)).2 with ⟨rfl, _⟩ | ⟨g, cap9, cur, rfl, _, hgb, _⟩
        · cases hr
        · obtain rfl : g = r := Option.some.inj hr
          rw [hgb] at he
          simp at he
      · intro r hr cs f he
        obtain rfl := Option.some.inj hr
        have := (show w2.heap[w1.heap.size]? = _ from hv1).symm.trans he
        simp at this
    case done =>
      rintro D ys W hD rfl ⟨⟨v, hv, hrow, _⟩, hB5⟩ hK
      have hc := hv.cell
      gi_wp2
      refine ⟨by simp, .inl ⟨_, _, rfl, run_takeDeferred hK, ?_⟩⟩
      exact ⟨_, results_tmp2 rfl _ _ _, v, rfl, by rw [HS.out]; exact ownsRow_putObj hrow _ hK rfl, HL.out, hB5.trans (belowK_b (w := w) (Nat.le_refl _) W D _ _ (by simp at hD; omega) hK rfl rfl)⟩
    case stop =>
      rintro D c pre W _ _ h _
      exact h.elim
end Go.Proofs.Ytjcoakgdhiiiaaa
