/- Chapter 12's model: Commits12. (printed by tools/mk_s12.py) -/
import Derived.Test.YtbbdchlabdilcaaGreatM6
import Derived.Test.YtbbdchlabdilcaaGreatS11w
import Derived.Test.YtbbdchlabdilcaaGreatS7d
import Derived.StillTailTactics
import Derived.Test.YtbbdchlabdilcaaGreatM4
namespace Go.Proofs.YtbbdchlabdilcaaGreat
set_option maxRecDepth 100000
open Go.RowKit Go.Proofs Go.Own
open Go Go.BigFrame
set_option linter.unusedVariables false
set_option linter.unusedSimpArgs false
set_option maxHeartbeats 16000000 in
theorem spec_Commits0 (d : WorldD) (v0 v1 v2 v3 v4 : Value) (w : World) (h0 : rdsL w v0 d.first_) (h1 : rdsL w v1 d.store_.heads_) (h2 : rdsL w v2 d.store_.descs_) (h3 : rdsL w v3 d.threads_) (h4 : rdsL w v4 d.log_) (hb : WorldB d) :
    Calls Tryz.prog 56 #[.agg #[v0, v1, v2, v3, v4]] w fun e w' => ∃ u : Value, e = .returned (.tuple #[u, .bool (worldOk d)]) ∧ w'.ownsRow w.heap.size 3 1 u (comsC d).length ((comsC d).flatMap encI) ∧ Below w.heap.size w w' := by
  obtain ⟨j0, hj, hy0, hy1, hy2⟩ := info_parts infoInt
  obtain ⟨fs, ⟨hs, ds⟩, ts, lg⟩ := d
  have Hok := hid (fun w r0 r1 r2 r3 r4 => spec_WorldOk0 ⟨fs, ⟨hs, ds⟩, ts, lg⟩ v0 v1 v2 v3 v4 w r0 r1 r2 r3 r4 hb)
  have hlg : lg.length ≤ 1048576 := by have h := (worldB_parts hb).2.2.2; exact h
  dsimp only at h0 h1 h2 h3 h4 Hok ⊢
  obtain ⟨a0, cap0, rfl, hl0, hm0, -⟩ := rdsL_open h0
  obtain ⟨a1, cap1, rfl, hl1, hm1, -⟩ := rdsL_open h1
  obtain ⟨a2, cap2, rfl, hl2, hm2, -⟩ := rdsL_open h2
  obtain ⟨a3, cap3, rfl, hl3, hm3, -⟩ := rdsL_open h3
  obtain ⟨a4, cap4, rfl, hl4, hm4, hc4⟩ := rdsL_open h4
  have HC4 := hid hc4
  have hlf : fs.length ≤ 9223372036854775807 := by omega
  have hlh : hs.length ≤ 9223372036854775807 := by omega
  have hld : ds.length ≤ 9223372036854775807 := by omega
  have hlt_ : ts.length ≤ 9223372036854775807 := by omega
  have hll : lg.length ≤ 9223372036854775807 := by omega
  have R0 := hid h0
  have R1 := hid h1
  have R2 := hid h2
  have R3 := hid h3
  have R4 := hid h4
  have Hsc := hid (show comsC ⟨fs, ⟨hs, ds⟩, ts, lg⟩ = if worldOk ⟨fs, ⟨hs, ds⟩, ts, lg⟩ = true then comsTo lg lg.length else [] from rfl)
  generalize comsC ⟨fs, ⟨hs, ds⟩, ts, lg⟩ = SC at *
  generalize worldOk ⟨fs, ⟨hs, ds⟩, ts, lg⟩ = R at *
  clear h0 h1 h2 h3 h4 hb hc4
  obtain ⟨W1, hW1⟩ : ∃ X, (w.alloc (.cells #[Value.slice a0 fs.length cap0, Value.slice a1 hs.length cap1, Value.slice a2 ds.length cap2, Value.slice a3 ts.length cap3, Value.slice a4 lg.length cap4] 32)).alloc (.cells #[] 3) = X := ⟨_, rfl⟩
  have hB1 : Below w.heap.size w W1 := by rw [← hW1]; exact ((Below.refl _ _).alloc (Nat.le_refl _) _).alloc (by simp) _
  have hN : W1.heap.size = w.heap.size + 2 := by rw [← hW1]; simp
  have BP1 : Hid (BoxF W1 w.heap.size [Value.slice a0 fs.length cap0, Value.slice a1 hs.length cap1, Value.slice a2 ds.length cap2, Value.slice a3 ts.length cap3, Value.slice a4 lg.length cap4]) := by
    rw [← hW1]
    exact hid ((BoxF.alloc w #[Value.slice a0 fs.length cap0, Value.slice a1 hs.length cap1, Value.slice a2 ds.length cap2, Value.slice a3 ts.length cap3, Value.slice a4 lg.length cap4] 32).below ((Below.refl _ _).alloc (Nat.le_refl _) _))
  have O1 : Hid (W1.ownsRow (w.heap.size + 1) 3 1 (.slice (some ⟨w.heap.size + 1, 0, none⟩) 0 0) 0 []) := by
    rw [← hW1]
    have h1 := owns_litN (w.alloc (.cells #[Value.slice a0 fs.length cap0, Value.slice a1 hs.length cap1, Value.slice a2 ds.length cap2, Value.slice a3 ts.length cap3, Value.slice a4 lg.length cap4] 32)) 3 1 0 #[] (w.heap.size + 1) (by simp) rfl (Nat.zero_le _)
    rw [show (w.alloc (.cells #[Value.slice a0 fs.length cap0, Value.slice a1 hs.length cap1, Value.slice a2 ds.length cap2, Value.slice a3 ts.length cap3, Value.slice a4 lg.length cap4] 32)).heap.size = w.heap.size + 1 by simp] at h1
    exact hid h1
  have k0 : W1.cell? ⟨w.heap.size, 0, none⟩ = some (Value.slice a0 fs.length cap0) := BP1.out.1.2 0 (by simp)
  have k1 : W1.cell? ⟨w.heap.size, 1, none⟩ = some (Value.slice a1 hs.length cap1) := BP1.out.1.2 1 (by simp)
  have k2 : W1.cell? ⟨w.heap.size, 2, none⟩ = some (Value.slice a2 ds.length cap2) := BP1.out.1.2 2 (by simp)
  have k3 : W1.cell? ⟨w.heap.size, 3, none⟩ = some (Value.slice a3 ts.length cap3) := BP1.out.1.2 3 (by simp)
  have k4 : W1.cell? ⟨w.heap.size, 4, none⟩ = some (Value.slice a4 lg.length cap4) := BP1.out.1.2 4 (by simp)
  have HW1 := hid hW1
  clear hW1
  go_enter Tryz.func56, Tryz.ntmps56
  go_wp2_with fail
  rw [HW1.out]
  refine (Hok.out _ (rdsL.below R0.out hB1) (rdsL.below R1.out hB1) (rdsL.below R2.out hB1) (rdsL.below R3.out hB1) (rdsL.below R4.out hB1)).mono ?_
  rintro e w2 ⟨rfl, b2⟩
  have hB2 := hB1.trans (b2.mono hB1.size)
  have hs2 := b2.size
  have BP2 := hid (BP1.out.below b2)
  have O2 := hid (owns_below O1.out b2)
  clear k0 k1 k2 k3 k4 BP1 O1 HW1
  cases R with
  | false =>
    have Hn := hid (show SC = [] by rw [Hsc.out]; simp)
    go_wp2
    go_ret2
    exact ⟨_, rfl, by rw [Hn.out]; exact owns_mono O2.out (by omega), hB2⟩
  | true =>
  have Hfin := hid (show SC = comsTo lg lg.length by rw [Hsc.out]; simp)
  have hM2 : w.heap.size + 1 ≤ w2.heap.size := by omega
  clear Hsc Hok
  go_wp2
  go_loopw [5, 4] (fun i u wr => ∃ (k : Nat) (ua : Option Addr) (um uc : Nat), k ≤ lg.length ∧ i = .int .i64 k ∧ u = Value.slice ua um uc ∧ Below w.heap.size w wr ∧ w.heap.size + 1 ≤ wr.heap.size ∧ Hid (BoxF wr w.heap.size [Value.slice a0 fs.length cap0, Value.slice a1 hs.length cap1, Value.slice a2 ds.length cap2, Value.slice a3 ts.length cap3, Value.slice a4 lg.length cap4]) ∧ Hid (wr.ownsRow (w.heap.size + 1) 3 1 (.slice ua um uc) (comsTo lg k).length ((comsTo lg k).flatMap encI))) (fun i _ _ => lg.length - (intOf i).toNat)
  case atStart => exact ⟨0, _, _, _, by omega, rfl, rfl, hB2, hM2, BP2, O2⟩
  case round =>
    clear hB1 hN BP2 O2 hB2 hM2 hs2 b2
    clear w2
    clear W1
    obtain ⟨k, ua, um, uc, hk, rfl, rfl, hB, hM, BP, O1⟩ := hrel
    have q4 : wr.cell? ⟨w.heap.size, 4, none⟩ = some (Value.slice a4 lg.length cap4) := BP.out.1.2 4 (by simp)
    by_cases hlt : k < lg.length
    · obtain ⟨bb, off, cs, rfl, hbs, hel, hcell⟩ := HC4.out k hlt
      have hel : cs = Event.enc lg[k] := hel
      subst hel
      have c0 : w.cell? ⟨bb, off + k * 4, none⟩ = some (.int .i64 lg[k].kind_) := hcell 0 (show 0 < 4 by omega)
      have c2 : w.cell? ⟨bb, off + k * 4 + 2, none⟩ = some (.int .i64 lg[k].object_) := hcell 2 (show 2 < 4 by omega)
      have e0 := (hB.cell (p := ⟨bb, off + k * 4, none⟩) hbs).trans c0
      have e2 := (hB.cell (p := ⟨bb, off + k * 4 + 2, none⟩) hbs).trans c2
      have hcl := comsTo_len lg k
      clear c0 c2 hcell HC4
      by_cases hk3 : lg[k].kind_ = 3
      · have Hs := hid (comsTo_yes hlt hk3)
        rw [hk3] at e0
        generalize lg[k].object_ = ob at *
        obtain ⟨W3, hW3⟩ : ∃ Y, wr.alloc (.cells #[.int .i64 ob] 3) = Y := ⟨_, rfl⟩
        have b23 : Below wr.heap.size wr W3 := by rw [← hW3]; exact (Below.refl _ _).alloc (Nat.le_refl _) _
        have hB3 := hB.trans (b23.mono hB.size)
        have hl3 : Flat W3 (.slice (some ⟨wr.heap.size, 0, none⟩) 1 1) 1 1 [.int .i64 ob] := by rw [← hW3]; exact Flat.of_owns (owns_litN wr 3 1 1 #[.int .i64 ob] 0 (Nat.zero_le _) rfl (by decide))
        have O3 := owns_below O1.out b23
        have hone := oneCell_1 ob
        have hs3 := hB3.size
        have hs3' : w.heap.size + 1 ≤ W3.heap.size := by have := b23.size; omega
        have BP3 := BP.out.below b23
        go_wp2_with (at_builtin; refine wpList_append_flat rfl _ _ 24 rfl (w.heap.size + 1) 3 j0 (.int .i64 0) 1 8 Tryz.underlying24 hj hy0 hy1 hy2 rfl (by decide) _ _ _ rfl O3 _ _ _ rfl hl3 hone (by unfold maxLen; omega) (by omega) hs3' ?_)
        intro v4 w4 o4 g4
        obtain ⟨ya, ym, yc, rfl⟩ := owns_form3 o4
        have hB4 : Below w.heap.size w w4 := hB3.trans (below_grown g4 hB3.size fun b e => by have := (World.ownsRow.lt O3 b e).1; omega)
        have BP4 := hid (BP3.grown g4 (fun e => by have := (World.ownsRow.lt O3 _ e).1; omega))
        have O4 := hid o4
        have hs4 : w.heap.size + 1 ≤ w4.heap.size := by have := g4.size; omega
        clear o4 g4 O3 BP3 BP O1 hl3 hW3 b23 hone
        go_wp2
        go_roundw
        case rel => exact ⟨k+1, _, _, _, by omega, by go_num, rfl, hB4, hs4, BP4, hid (by rw [Hs.out, encI_snoc, List.length_append]; exact O4.out)⟩
        case measure => simp [intOf]; omega
      · have Hs := hid (comsTo_no hlt hk3)
        generalize lg[k].kind_ = kd at *
        go_wp2
        go_roundw
        case rel => exact ⟨k+1, _, _, _, by omega, by go_num, rfl, hB, hM, BP, hid (by rw [Hs.out]; exact O1.out)⟩
        case measure => simp [intOf]; omega
    · obtain rfl : k = lg.length := by omega
      go_wp2
      go_ret2
      exact ⟨_, rfl, by rw [Hfin.out]; exact owns_mono O1.out (by omega), hB⟩
end Go.Proofs.YtbbdchlabdilcaaGreat
/- Chapter 12: the commits done in their order. -/
namespace Go.Proofs.YtbbdchlabdilcaaGreat
set_option maxRecDepth 100000
open Go.RowKit Go.Proofs Go.Own
/-- The first k descriptors of a list done on values. -/
def doneTo (fs : List Int) (ds : List DescD) (xs : List Int) : Nat → List Int
  | 0 => fs
  | k+1 => match xs[k]? with
    | some x => doL (doneTo fs ds xs k) (entsAt ds x)
    | none => doneTo fs ds xs k
theorem doneTo_succ {fs : List Int} {ds : List DescD} {xs : List Int} {k : Nat} (h : k < xs.length) : doneTo fs ds xs (k+1) = doL (doneTo fs ds xs k) (entsAt ds xs[k]) := by
  conv => lhs; unfold doneTo
  rw [List.getElem?_eq_getElem h]
theorem doneTo_len (fs : List Int) (ds : List DescD) (xs : List Int) : ∀ k, (doneTo fs ds xs k).length = fs.length
  | 0 => rfl
  | k+1 => by
    unfold doneTo
    split
    · rw [doL_len, doneTo_len fs ds xs k]
    · exact doneTo_len fs ds xs k
theorem doneTo_append (fs : List Int) (ds : List DescD) (xs ys : List Int) : ∀ k, k ≤ xs.length → doneTo fs ds (xs ++ ys) k = doneTo fs ds xs k
  | 0, _ => rfl
  | k+1, h => by
    rw [doneTo_succ (xs := xs) (by omega), doneTo_succ (xs := xs ++ ys) (by rw [List.length_append]; omega), doneTo_append fs ds xs ys k (by omega), List.getElem_append_left (by omega)]
theorem doneTo_snoc (fs : List Int) (ds : List DescD) (xs : List Int) (x : Int) : doneTo fs ds (xs ++ [x]) (xs ++ [x]).length = doL (doneTo fs ds xs xs.length) (entsAt ds x) := by
  rw [List.length_append, List.length_singleton, doneTo_succ (by simp), doneTo_append _ _ _ _ _ (Nat.le_refl _)]
  congr 2
  simp
/-- The commits ahead of a place, done in order, come to the state there. -/
theorem done_state (fs : List Int) (ds : List DescD) (lg : List Event) : ∀ p, p ≤ lg.length → doneTo fs ds (comsTo lg p) (comsTo lg p).length = stateN fs ds lg p
  | 0, _ => rfl
  | p+1, h => by
    have ih := done_state fs ds lg p (by omega)
    by_cases hk : lg[p].kind_ = 3
    · rw [comsTo_yes (by omega) hk, doneTo_snoc, ih, stateN_com (by omega) hk]
    · rw [comsTo_no (by omega) hk, ih, stateN_not (by omega) hk]
theorem comsTo_take (lg : List Event) (p : Nat) (h : p ≤ lg.length) : comsTo (lg.take p) (lg.take p).length = comsTo lg p := by
  unfold comsTo
  rw [List.take_length]
theorem comsTo_mem {lg : List Event} {p : Nat} {n m k : Nat} (h : ∀ i, (hi : i < lg.length) → evOk n m k lg[i] = true) : ∀ x ∈ comsTo lg p, 0 ≤ x ∧ x < (m : Int) := by
  intro x hx
  unfold comsTo at hx
  rw [List.mem_filterMap] at hx
  obtain ⟨e, he, hx⟩ := hx
  have he := List.mem_of_mem_take he
  obtain ⟨i, hi, rfl⟩ := List.mem_iff_getElem.1 he
  by_cases hk : lg[i].kind_ = 3
  · rw [if_pos hk] at hx
    obtain rfl := Option.some.inj hx
    exact evOk_com (h i hi) hk
  · rw [if_neg hk] at hx; cases hx
end Go.Proofs.YtbbdchlabdilcaaGreat
/- An append whose two slices are of two named types. Of any program. -/
namespace Go.Own
open Go.RowKit
set_option linter.unusedVariables false
theorem append_types {P : Program} {t t2 ty e e2 : TypeId} {i : TypeInfo} (h1 : P.underlying t = some (.slice e)) (h2 : P.underlying t2 = some (.slice e2)) (hi : P.info? e = some i) (a a2 : Option Addr) (n c n2 c2 : Nat) (w : World) : (Builtin.append_ #[t, t2] ty #[.slice a n c, .slice a2 n2 c2]).run P w = (Builtin.append_ #[t, t] ty #[.slice a n c, .slice a2 n2 c2]).run P w := by
  simp [Builtin.append_, run_underlying h1, run_underlying h2, sizeOf, typeInfo, hi, Builtin.lenOf]
theorem wpList_append_two {P : Program} {w : World} {ops : Array Oper} {rest : List Oper} {o : Oper} {a : Act} {Q : Exit → Act → World → Prop} (hgd : o.guard = none) (s x : Operand) (t t2 e2 : TypeId)
    (ho : o.op = .call { callee := .builtin .append, args := #[s, x], argTypes := #[t, t2] })
    (base : Nat) (e : TypeId) (i : TypeInfo) (z : Value) (size bytes : Nat) (ht : P.underlying t = some (.slice e)) (ht2 : P.underlying t2 = some (.slice e2)) (hi : P.info? e = some i) (hz : i.zero = some z)
    (hsize : i.size = size) (hby : i.bytes = bytes) (hzs : z.cells.size = size) (hsz : 0 < size)
    (v : Value) (n : Nat) (xs : List Value) (hs : a.eval s = v) (hown : w.ownsRow base e size v n xs)
    (u : Value) (m : Nat) (news : List Value) (hx : a.eval x = u) (hu : Flat w u m size news) (h1 : ∀ c ∈ news, c.oneCell' = true)
    (h63 : n + m ≤ maxLen) (hbytes : (n + m) * bytes ≤ 140737488355328) (hbase : base ≤ w.heap.size)
    (h : ∀ v' w', w'.ownsRow base e size v' (n + m) (xs ++ news) → w.grownBy w' v.ownBlock → wpList P ops Q rest (a.put o.dst v') w') : wpList P ops Q (o :: rest) a w := by
  rcases hu.src with ⟨rfl, rfl, rfl⟩ | ⟨ad, cap, rfl, hl, hc⟩
  · have hrun := run_append_owned_none (P := P) (w := w) base t o.type e i size ht hi v n xs hown
    obtain ⟨sa, sm, sc, rfl⟩ := owns_form3 hown
    rw [← append_types ht ht2 hi] at hrun
    refine wpList_plain hgd fun K hK => ?_
    unfold Oper.wp
    simp [execOp, ho, resolve, invoke, builtin, hs, hx, hrun, Result.andThen]
    exact hK _ _ (h _ w (by simpa using hown) (World.grownBy.refl _ _))
  · obtain ⟨v', w', hrun, r1, r2, _⟩ := run_append_own (P := P) (w := w) base t o.type e i z size bytes ht hi hz hsize hby hzs hsz v n xs hown ad m cap news hl hc h1 h63 hbytes hbase
    obtain ⟨sa, sm, sc, rfl⟩ := owns_form3 hown
    rw [← append_types ht ht2 hi] at hrun
    refine wpList_plain hgd fun K hK => ?_
    unfold Oper.wp
    simp [execOp, ho, resolve, invoke, builtin, hs, hx, hrun, Result.andThen]
    exact hK _ _ (h v' w' r1 r2)
end Go.Own
