/- Chapter 12's model: StateAt. (printed by tools/mk_s12.py) -/
import Derived.Test.YtbbdchlabdilcaaGreatM10
import Derived.Test.YtbbdchlabdilcaaGreatS11w
import Derived.StillTailTactics
import Derived.Test.YtbbdchlabdilcaaGreatM9
import Derived.Test.YtbbdchlabdilcaaGreatM5
namespace Go.Proofs.YtbbdchlabdilcaaGreat
set_option maxRecDepth 100000
open Go.RowKit Go.Proofs Go.Own
open Go Go.BigFrame
set_option linter.unusedVariables false
set_option linter.unusedSimpArgs false
set_option maxHeartbeats 16000000 in
theorem spec_StateAt0 (d : WorldD) (p : Int) (v0 v1 v2 v3 v4 : Value) (w : World) (h0 : rdsL w v0 d.first_) (h1 : rdsL w v1 d.store_.heads_) (h2 : rdsL w v2 d.store_.descs_) (h3 : rdsL w v3 d.threads_) (h4 : rdsL w v4 d.log_) (hb : WorldB d) :
    Calls Tryz.prog 54 #[.agg #[v0, v1, v2, v3, v4], .int .i64 p] w fun e w' => ∃ u : Value, e = .returned (.tuple #[u, .bool (placeOk12 d p)]) ∧ w'.ownsRow w.heap.size 3 1 u (stateC d p).length ((stateC d p).flatMap encI) ∧ Below w.heap.size w w' := by
  obtain ⟨fs, ⟨hs, ds⟩, ts, lg⟩ := d
  have Hok := hid (fun w r0 r1 r2 r3 r4 => spec_WorldOk0 ⟨fs, ⟨hs, ds⟩, ts, lg⟩ v0 v1 v2 v3 v4 w r0 r1 r2 r3 r4 hb)
  have Hst := hid (fun (hk : worldOk ⟨fs, ⟨hs, ds⟩, ts, lg⟩ = true) (p : Nat) (hp : p ≤ lg.length) w r0 r1 r2 r3 r4 => spec_l12State0 ⟨fs, ⟨hs, ds⟩, ts, lg⟩ p v0 v1 v2 v3 v4 w r0 r1 r2 r3 r4 hk hp)
  dsimp only at h0 h1 h2 h3 h4 Hok Hst ⊢
  obtain ⟨a0, cap0, rfl, hl0, hm0, -⟩ := rdsL_open h0
  obtain ⟨a1, cap1, rfl, hl1, hm1, -⟩ := rdsL_open h1
  obtain ⟨a2, cap2, rfl, hl2, hm2, -⟩ := rdsL_open h2
  obtain ⟨a3, cap3, rfl, hl3, hm3, -⟩ := rdsL_open h3
  obtain ⟨a4, cap4, rfl, hl4, hm4, -⟩ := rdsL_open h4
  have hlf : fs.length ≤ 9223372036854775807 := by omega
  have hlh : hs.length ≤ 9223372036854775807 := by omega
  have hld : ds.length ≤ 9223372036854775807 := by omega
  have hlt_ : ts.length ≤ 9223372036854775807 := by omega
  have hll : lg.length ≤ 9223372036854775807 := by omega
  have R0 := hid h0
  have R1 := hid h1
  have R2 := hid h2
  have R3 := hid h3
  have R4 := hid h4
  have Hp := hid (show placeOk12 ⟨fs, ⟨hs, ds⟩, ts, lg⟩ p = (worldOk ⟨fs, ⟨hs, ds⟩, ts, lg⟩ && inB p 0 lg.length) from rfl)
  have Hsc := hid (show stateC ⟨fs, ⟨hs, ds⟩, ts, lg⟩ p = if placeOk12 ⟨fs, ⟨hs, ds⟩, ts, lg⟩ p = true then stateN fs ds lg p.toNat else [] from rfl)
  generalize placeOk12 ⟨fs, ⟨hs, ds⟩, ts, lg⟩ p = PO at *
  generalize stateC ⟨fs, ⟨hs, ds⟩, ts, lg⟩ p = SC at *
  generalize worldOk ⟨fs, ⟨hs, ds⟩, ts, lg⟩ = R at *
  clear h0 h1 h2 h3 h4 hb
  obtain ⟨W1, hW1⟩ : ∃ X, w.alloc (.cells #[Value.slice a0 fs.length cap0, Value.slice a1 hs.length cap1, Value.slice a2 ds.length cap2, Value.slice a3 ts.length cap3, Value.slice a4 lg.length cap4] 32) = X := ⟨_, rfl⟩
  have hB1 : Below w.heap.size w W1 := by rw [← hW1]; exact (Below.refl _ _).alloc (Nat.le_refl _) _
  have bw : Box W1 w.heap.size [Value.slice a0 fs.length cap0, Value.slice a1 hs.length cap1, Value.slice a2 ds.length cap2, Value.slice a3 ts.length cap3, Value.slice a4 lg.length cap4] := by rw [← hW1]; exact Box.alloc _ _ _
  have hN := bw.1
  have k0 : W1.cell? ⟨w.heap.size, 0, none⟩ = some (Value.slice a0 fs.length cap0) := bw.2 0 (by simp)
  have k1 : W1.cell? ⟨w.heap.size, 1, none⟩ = some (Value.slice a1 hs.length cap1) := bw.2 1 (by simp)
  have k2 : W1.cell? ⟨w.heap.size, 2, none⟩ = some (Value.slice a2 ds.length cap2) := bw.2 2 (by simp)
  have k3 : W1.cell? ⟨w.heap.size, 3, none⟩ = some (Value.slice a3 ts.length cap3) := bw.2 3 (by simp)
  have k4 : W1.cell? ⟨w.heap.size, 4, none⟩ = some (Value.slice a4 lg.length cap4) := bw.2 4 (by simp)
  have HW1 := hid hW1
  have BW := hid bw
  clear hW1 bw
  go_enter Tryz.func54, Tryz.ntmps54
  go_wp2_with fail
  rw [HW1.out]
  refine (Hok.out _ (rdsL.below R0.out hB1) (rdsL.below R1.out hB1) (rdsL.below R2.out hB1) (rdsL.below R3.out hB1) (rdsL.below R4.out hB1)).mono ?_
  rintro e w2 ⟨rfl, b2⟩
  have B2 := hB1.trans (b2.mono hB1.size)
  have HB2 := hid B2
  have bx2 := BW.out.below b2
  have x0 : w2.cell? ⟨w.heap.size, 0, none⟩ = some (Value.slice a0 fs.length cap0) := bx2.2 0 (by simp)
  have x1 : w2.cell? ⟨w.heap.size, 1, none⟩ = some (Value.slice a1 hs.length cap1) := bx2.2 1 (by simp)
  have x2 : w2.cell? ⟨w.heap.size, 2, none⟩ = some (Value.slice a2 ds.length cap2) := bx2.2 2 (by simp)
  have x3 : w2.cell? ⟨w.heap.size, 3, none⟩ = some (Value.slice a3 ts.length cap3) := bx2.2 3 (by simp)
  have x4 : w2.cell? ⟨w.heap.size, 4, none⟩ = some (Value.slice a4 lg.length cap4) := bx2.2 4 (by simp)
  have T0 := hid (rdsL.below R0.out B2)
  have T1 := hid (rdsL.below R1.out B2)
  have T2 := hid (rdsL.below R2.out B2)
  have T3 := hid (rdsL.below R3.out B2)
  have T4 := hid (rdsL.below R4.out B2)
  clear k0 k1 k2 k3 k4 bx2
  cases R with
  | false =>
    have hp0 : PO = false := by rw [Hp.out]; rfl
    have Hs0 := hid (show SC = [] by rw [Hsc.out, hp0]; simp)
    subst hp0
    have HBL := hid (show Below w.heap.size w (w2.alloc (.cells #[] 3)) from HB2.out.alloc HB2.out.size _)
    have hO := owns_litN w2 3 1 0 #[] w.heap.size HB2.out.size rfl (Nat.zero_le _)
    go_wp2
    go_ret2
    exact ⟨_, rfl, by rw [Hs0.out]; exact hO, HBL.out⟩
  | true =>
  cases hin : inB p 0 lg.length with
  | false =>
    have hp0 : PO = false := by rw [Hp.out, hin]; rfl
    have Hs0 := hid (show SC = [] by rw [Hsc.out, hp0]; simp)
    subst hp0
    have HBL := hid (show Below w.heap.size w (w2.alloc (.cells #[] 3)) from HB2.out.alloc HB2.out.size _)
    have hO := owns_litN w2 3 1 0 #[] w.heap.size HB2.out.size rfl (Nat.zero_le _)
    go_wp2_with (go_at_call 128; refine (spec_l1In _ _ _ _).mono ?_; rintro e w' ⟨rfl, rfl⟩)
    go_ret2
    exact ⟨_, rfl, by rw [Hs0.out]; exact hO, HBL.out⟩
  | true =>
  have hp0 : PO = true := by rw [Hp.out, hin]; rfl
  have hpi : 0 ≤ p ∧ p ≤ (lg.length : Int) := by simpa [inB] using hin
  obtain ⟨q, rfl⟩ := Int.eq_ofNat_of_zero_le hpi.1
  have Hs0 := hid (show SC = stateN fs ds lg q by rw [Hsc.out, hp0, if_pos rfl, Int.toNat_natCast])
  have Hlen := hid (stateN_len fs ds lg q)
  subst hp0
  go_wp2_with (go_at_call 128; refine (spec_l1In _ _ _ _).mono ?_; rintro e w' ⟨rfl, rfl⟩)
  refine (Hst.out (by first | exact rfl | trivial) q (by omega) _ T0.out T1.out T2.out T3.out T4.out).mono ?_
  rintro e w5 ⟨u, rfl, o5, b5⟩
  have HB5 := hid (B2.trans (b5.mono B2.size))
  have HO5 := hid (owns_mono o5 B2.size)
  obtain ⟨ua, un, uc, rfl⟩ := owns_form3 o5
  clear o5
  go_wp2
  go_ret2
  exact ⟨_, rfl, by rw [Hs0.out, Hlen.out]; exact HO5.out, HB5.out⟩
end Go.Proofs.YtbbdchlabdilcaaGreat
/- Chapter 12: the commits done in their order. -/
namespace Go.Proofs.YtbbdchlabdilcaaGreat
set_option maxRecDepth 100000
open Go.RowKit Go.Proofs Go.Own
/-- The first k descriptors of a list done on values. -/
def doneTo (fs : List Int) (ds : List DescD) (xs : List Int) : Nat → List Int
  | 0 => fs
  | k+1 => match xs[k]? with
    | some x => doL (doneTo fs ds xs k) (entsAt ds x)
    | none => doneTo fs ds xs k
theorem doneTo_succ {fs : List Int} {ds : List DescD} {xs : List Int} {k : Nat} (h : k < xs.length) : doneTo fs ds xs (k+1) = doL (doneTo fs ds xs k) (entsAt ds xs[k]) := by
  conv => lhs; unfold doneTo
  rw [List.getElem?_eq_getElem h]
theorem doneTo_len (fs : List Int) (ds : List DescD) (xs : List Int) : ∀ k, (doneTo fs ds xs k).length = fs.length
  | 0 => rfl
  | k+1 => by
    unfold doneTo
    split
    · rw [doL_len, doneTo_len fs ds xs k]
    · exact doneTo_len fs ds xs k
theorem doneTo_append (fs : List Int) (ds : List DescD) (xs ys : List Int) : ∀ k, k ≤ xs.length → doneTo fs ds (xs ++ ys) k = doneTo fs ds xs k
  | 0, _ => rfl
  | k+1, h => by
    rw [doneTo_succ (xs := xs) (by omega), doneTo_succ (xs := xs ++ ys) (by rw [List.length_append]; omega), doneTo_append fs ds xs ys k (by omega), List.getElem_append_left (by omega)]
theorem doneTo_snoc (fs : List Int) (ds : List DescD) (xs : List Int) (x : Int) : doneTo fs ds (xs ++ [x]) (xs ++ [x]).length = doL (doneTo fs ds xs xs.length) (entsAt ds x) := by
  rw [List.length_append, List.length_singleton, doneTo_succ (by simp), doneTo_append _ _ _ _ _ (Nat.le_refl _)]
  congr 2
  simp
/-- The commits ahead of a place, done in order, come to the state there. -/
theorem done_state (fs : List Int) (ds : List DescD) (lg : List Event) : ∀ p, p ≤ lg.length → doneTo fs ds (comsTo lg p) (comsTo lg p).length = stateN fs ds lg p
  | 0, _ => rfl
  | p+1, h => by
    have ih := done_state fs ds lg p (by omega)
    by_cases hk : lg[p].kind_ = 3
    · rw [comsTo_yes (by omega) hk, doneTo_snoc, ih, stateN_com (by omega) hk]
    · rw [comsTo_no (by omega) hk, ih, stateN_not (by omega) hk]
theorem comsTo_take (lg : List Event) (p : Nat) (h : p ≤ lg.length) : comsTo (lg.take p) (lg.take p).length = comsTo lg p := by
  unfold comsTo
  rw [List.take_length]
theorem comsTo_mem {lg : List Event} {p : Nat} {n m k : Nat} (h : ∀ i, (hi : i < lg.length) → evOk n m k lg[i] = true) : ∀ x ∈ comsTo lg p, 0 ≤ x ∧ x < (m : Int) := by
  intro x hx
  unfold comsTo at hx
  rw [List.mem_filterMap] at hx
  obtain ⟨e, he, hx⟩ := hx
  have he := List.mem_of_mem_take he
  obtain ⟨i, hi, rfl⟩ := List.mem_iff_getElem.1 he
  by_cases hk : lg[i].kind_ = 3
  · rw [if_pos hk] at hx
    obtain rfl := Option.some.inj hx
    exact evOk_com (h i hi) hk
  · rw [if_neg hk] at hx; cases hx
end Go.Proofs.YtbbdchlabdilcaaGreat
/- An append whose two slices are of two named types. Of any program. -/
namespace Go.Own
open Go.RowKit
set_option linter.unusedVariables false
theorem append_types {P : Program} {t t2 ty e e2 : TypeId} {i : TypeInfo} (h1 : P.underlying t = some (.slice e)) (h2 : P.underlying t2 = some (.slice e2)) (hi : P.info? e = some i) (a a2 : Option Addr) (n c n2 c2 : Nat) (w : World) : (Builtin.append_ #[t, t2] ty #[.slice a n c, .slice a2 n2 c2]).run P w = (Builtin.append_ #[t, t] ty #[.slice a n c, .slice a2 n2 c2]).run P w := by
  simp [Builtin.append_, run_underlying h1, run_underlying h2, sizeOf, typeInfo, hi, Builtin.lenOf]
theorem wpList_append_two {P : Program} {w : World} {ops : Array Oper} {rest : List Oper} {o : Oper} {a : Act} {Q : Exit → Act → World → Prop} (hgd : o.guard = none) (s x : Operand) (t t2 e2 : TypeId)
    (ho : o.op = .call { callee := .builtin .append, args := #[s, x], argTypes := #[t, t2] })
    (base : Nat) (e : TypeId) (i : TypeInfo) (z : Value) (size bytes : Nat) (ht : P.underlying t = some (.slice e)) (ht2 : P.underlying t2 = some (.slice e2)) (hi : P.info? e = some i) (hz : i.zero = some z)
    (hsize : i.size = size) (hby : i.bytes = bytes) (hzs : z.cells.size = size) (hsz : 0 < size)
    (v : Value) (n : Nat) (xs : List Value) (hs : a.eval s = v) (hown : w.ownsRow base e size v n xs)
    (u : Value) (m : Nat) (news : List Value) (hx : a.eval x = u) (hu : Flat w u m size news) (h1 : ∀ c ∈ news, c.oneCell' = true)
    (h63 : n + m ≤ maxLen) (hbytes : (n + m) * bytes ≤ 140737488355328) (hbase : base ≤ w.heap.size)
    (h : ∀ v' w', w'.ownsRow base e size v' (n + m) (xs ++ news) → w.grownBy w' v.ownBlock → wpList P ops Q rest (a.put o.dst v') w') : wpList P ops Q (o :: rest) a w := by
  rcases hu.src with ⟨rfl, rfl, rfl⟩ | ⟨ad, cap, rfl, hl, hc⟩
  · have hrun := run_append_owned_none (P := P) (w := w) base t o.type e i size ht hi v n xs hown
    obtain ⟨sa, sm, sc, rfl⟩ := owns_form3 hown
    rw [← append_types ht ht2 hi] at hrun
    refine wpList_plain hgd fun K hK => ?_
    unfold Oper.wp
    simp [execOp, ho, resolve, invoke, builtin, hs, hx, hrun, Result.andThen]
    exact hK _ _ (h _ w (by simpa using hown) (World.grownBy.refl _ _))
  · obtain ⟨v', w', hrun, r1, r2, _⟩ := run_append_own (P := P) (w := w) base t o.type e i z size bytes ht hi hz hsize hby hzs hsz v n xs hown ad m cap news hl hc h1 h63 hbytes hbase
    obtain ⟨sa, sm, sc, rfl⟩ := owns_form3 hown
    rw [← append_types ht ht2 hi] at hrun
    refine wpList_plain hgd fun K hK => ?_
    unfold Oper.wp
    simp [execOp, ho, resolve, invoke, builtin, hs, hx, hrun, Result.andThen]
    exact hK _ _ (h v' w' r1 r2)
end Go.Own
