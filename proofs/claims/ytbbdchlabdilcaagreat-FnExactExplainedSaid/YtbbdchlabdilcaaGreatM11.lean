/- Chapter 8's model: a stack copied; StackOk. -/
import Derived.Test.YtbbdchlabdilcaaGreatM6
import Derived.Test.YtbbdchlabdilcaaGreatF8
import Derived.Test.YtbbdchlabdilcaaGreatN8o
import Derived.Test.YtbbdchlabdilcaaGreatM1
import Derived.Deep.RegionLaw
import Derived.Test.YtbbdchlabdilcaaGreatM3
import Derived.Test.YtbbdchlabdilcaaGreatM4
import Derived.Laws.StructEq
import Derived.Test.YtbbdchlabdilcaaGreatM8
import Derived.Test.YtbbdchlabdilcaaGreatBx
import Derived.Test.YtbbdchlabdilcaaGreatM7
import Derived.Deep.MidRow
namespace Go.Proofs.YtbbdchlabdilcaaGreat
set_option maxRecDepth 100000
open Go.RowKit Go.Proofs Go.Own
open Go Go.BigFrame
set_option linter.unusedVariables false
set_option linter.unusedSimpArgs false
theorem oneCell_F (xs : List Frame) : ∀ c ∈ xs.flatMap Frame.enc, c.oneCell' = true := oneCell_enc (f := Frame.enc) (by intro x c hc; simp [Frame.enc] at hc; rcases hc with rfl | rfl | rfl <;> rfl) xs
theorem spec_l8Copy (v : Value) (xs : List Frame) (w : World) (h : rdsL w v xs) (hx : xs.length ≤ 1048576) :
    Calls Tryz.prog 153 #[v] w fun e w' => ∃ v', ∃ S : Nat → Prop, e = .returned v' ∧ ownL S w' v' xs ∧ (∀ k, S k → Rg w.heap.size w'.heap.size k) ∧ Below w.heap.size w w' := by
  obtain ⟨i0, hi, hz0, hz1, hz2⟩ := info_parts infoFrame
  have hone := hid (oneCell_F xs)
  have h := rdsFrames.1 h
  obtain ⟨ad, cap, rfl, hl, hm⟩ := Flat.form h
  have hown : (w.alloc (.cells #[] 221)).ownsRow w.heap.size 221 3 (.slice (some ⟨w.heap.size, 0, none⟩) 0 0) 0 [] := World.ownsRow_made _ _ _ (Nat.le_refl _) (Nat.zero_le _) rfl
  have hB : Below w.heap.size w (w.alloc (.cells #[] 221)) := (Below.refl _ _).alloc (Nat.le_refl _) _
  have h2 := Flat.below h hB
  go_enter Tryz.func153, Tryz.ntmps153
  go_wp2_with (at_builtin; refine wpList_append_flat rfl _ _ 49 rfl w.heap.size 221 i0 (.agg #[.int .i64 0, .int .i64 0, .int .i64 0]) 3 24 Tryz.underlying49 hi hz0 hz1 hz2 rfl (by decide) _ _ _ rfl hown _ _ _ rfl h2 hone.out (by unfold maxLen; omega) (by omega) (by simp) ?_)
  intro v' w1 ho hg
  have hB1 := hB.trans (below_of_mark hown hg (Nat.le_refl _) (by simp))
  go_wp2
  go_ret
  exact ⟨_, _, rfl, ownFrame_of (by simpa using ho), fun _ h => h, hB1⟩
set_option maxHeartbeats 8000000 in
theorem spec_StackOk0 (hs : List Head) (ds : List DescD) (st : List Frame) (v0 v1 v2 : Value) (w : World) (h0 : rdsL w v0 hs) (h1 : rdsL w v1 ds) (h2 : rdsL w v2 st) :
    Calls Tryz.prog 154 #[.agg #[v0, v1], v2] w fun e w' => e = .returned (.bool (stackOk hs ds st)) ∧ Below w.heap.size w w' := by
  have H0 := hid h0
  have H1 := hid h1
  obtain ⟨a0, cap0, rfl, hl0, hm0, -⟩ := rdsL_open h0
  obtain ⟨a1, cap1, rfl, hl1, hm1, -⟩ := rdsL_open h1
  obtain ⟨a2, cap2, rfl, hl2, hm2, hc2⟩ := rdsL_open h2
  have HC := hid hc2
  clear h0 h1 h2 hc2
  have hlen2 : st.length ≤ 9223372036854775807 := by omega
  obtain ⟨W1, hW1⟩ : ∃ X, w.alloc (.cells #[Value.slice a0 hs.length cap0, Value.slice a1 ds.length cap1] 28) = X := ⟨_, rfl⟩
  have hB1 : Below w.heap.size w W1 := by rw [← hW1]; exact (Below.refl _ _).alloc (Nat.le_refl _) _
  have BP : Hid (BoxF W1 w.heap.size [Value.slice a0 hs.length cap0, Value.slice a1 ds.length cap1]) := by rw [← hW1]; exact hid (BoxF.alloc w #[Value.slice a0 hs.length cap0, Value.slice a1 ds.length cap1] 28)
  go_enter Tryz.func154, Tryz.ntmps154
  go_wp2
  go_loopw [5] (fun i wr => ∃ k : Nat, k ≤ st.length ∧ i = .int .i64 k ∧ Same ((st.drop k).all (stkIn hs ds)) (st.all (stkIn hs ds)) ∧ Below w.heap.size w wr ∧ Hid (BoxF wr w.heap.size [Value.slice a0 hs.length cap0, Value.slice a1 ds.length cap1])) (fun i _ => st.length - (intOf i).toNat)
  case atStart => exact ⟨0, by omega, rfl, .rfl, hB1, BP⟩
  case round =>
    clear hW1 hB1 BP
    clear W1
    obtain ⟨k, hk, rfl, hS, hB, BP⟩ := hrel
    by_cases hlt : k < st.length
    · have hst := hid (all_step (stkIn hs ds) st k hlt)
      obtain ⟨bb, off, cs, rfl, hbs, rfl, hcell⟩ := HC.out k hlt
      have hbr := Nat.lt_of_lt_of_le hbs hB.size
      have y0 := Ext.cell hbr ((hB.cell (p := ⟨bb, off + k * 3, none⟩) hbs).trans (show w.cell? ⟨bb, off + k * 3, none⟩ = some (.int .i64 st[k].desc_) from hcell 0 (show 0 < 3 by omega)))
      have y1 := Ext.cell hbr ((hB.cell (p := ⟨bb, off + k * 3 + 1, none⟩) hbs).trans (show w.cell? ⟨bb, off + k * 3 + 1, none⟩ = some (.int .i64 st[k].phase_) from hcell 1 (show 1 < 3 by omega)))
      have y2 := Ext.cell hbr ((hB.cell (p := ⟨bb, off + k * 3 + 2, none⟩) hbs).trans (show w.cell? ⟨bb, off + k * 3 + 2, none⟩ = some (.int .i64 st[k].at_) from hcell 2 (show 2 < 3 by omega)))
      have x0 := Ext.cell BP.out.1.1 (show wr.cell? ⟨w.heap.size, 0, none⟩ = some (Value.slice a0 hs.length cap0) from BP.out.1.2 0 (by simp))
      have x1 := Ext.cell BP.out.1.1 (show wr.cell? ⟨w.heap.size, 1, none⟩ = some (Value.slice a1 ds.length cap1) from BP.out.1.2 1 (by simp))
      have HR0 := hid (rdsL.below H0.out hB)
      have HR1 := hid (rdsL.below H1.out hB)
      have hki : (k : Int) < (st.length : Int) := by omega
      have hk0 : (0 : Int) ≤ (k : Int) := by omega
      clear hcell HC H0 H1
      by_cases hp : st[k].phase_ = 5
      · have hp' : (st[k].phase_ == 5) = true := by rw [beq_iff_eq]; exact hp
        have hn : Hid (stkIn hs ds st[k] = false) := hid (by unfold stkIn; rw [decide_eq_true hp]; rfl)
        clear hp
        go_wp2_with fail
        refine wp_region_ext wr (Below.refl _ _) (by kernel_rfl) (by kernel_rfl) ?_
        repeat (go_big_quiet_step (fail))
        refine wpQuiet_nil ?_; rintro _ ⟨E, rfl⟩
        have hBE := hid (hB.trans (E.h.mono hB.size))
        clear x0 x1 y0 y1 y2
        go_wp2
        go_ret
        exact ⟨ret_bool (by unfold stackOk; rw [← hS.out, hst.out, hn.out, Bool.false_and, Bool.and_false]), hBE.out⟩
      · have hp' : (st[k].phase_ == 5) = false := by rw [beq_eq_false_iff_ne]; exact hp
        have hn : Hid (stkIn hs ds st[k] = frameOk hs ds st[k]) := hid (by unfold stkIn; rw [decide_eq_false hp]; rfl)
        clear hp
        obtain ⟨FB, hFB⟩ : ∃ FB, Hid (frameOk hs ds st[k] = FB) := ⟨_, hid rfl⟩
        have hFo := hFB.out
        go_wp2_with fail
        refine wp_region_ext wr (Below.refl _ _) (by kernel_rfl) (by kernel_rfl) ?_
        repeat (go_big_quiet_step (first | (go_at_call 214; exact call_ext _ (spec_FrameOk0 hs ds _ _ st[k] _ (rdsL.below HR0.out (Ext.h _)) (rdsL.below HR1.out (Ext.h _))))))
        refine wpQuiet_nil ?_; rintro _ ⟨E, rfl⟩
        have hBE := hid (hB.trans (E.h.mono hB.size))
        have BPE := hid (BP.out.below E.h)
        have hBE2 := hBE.out
        clear x0 x1 y0 y1 y2 hFo HR0 HR1 BP hB
        cases FB with
        | false =>
          go_wp2
          go_ret
          exact ⟨ret_bool (by unfold stackOk; rw [← hS.out, hst.out, hn.out, hFB.out, Bool.false_and, Bool.and_false]), hBE.out⟩
        | true =>
          clear hBE2
          go_wp2
          go_roundw
          case rel => exact ⟨k+1, by omega, by go_num, Same.mk (by rw [← hS.out, hst.out, hn.out, hFB.out, Bool.true_and]), hBE.out, BPE⟩
          case measure => simp [intOf]; omega
    · obtain rfl : k = st.length := by omega
      have hAll := hid (show st.all (stkIn hs ds) = true by rw [← hS.out]; exact all_end _ _ _ (by omega))
      have hu := hid (show stackOk hs ds st = (storeOk hs ds && decide (st.length ≤ 130)) by unfold stackOk; rw [hAll.out, Bool.and_true])
      have x0 : wr.cell? ⟨w.heap.size, 0, none⟩ = some (Value.slice a0 hs.length cap0) := BP.out.1.2 0 (by simp)
      have x1 : wr.cell? ⟨w.heap.size, 1, none⟩ = some (Value.slice a1 ds.length cap1) := BP.out.1.2 1 (by simp)
      have R0 := hid (rdsL.below H0.out hB)
      have R1 := hid (rdsL.below H1.out hB)
      go_wp2_with fail
      refine (spec_StoreOk0 hs ds _ _ _ R0.out R1.out).mono ?_
      rintro e w2 ⟨rfl, b2⟩
      have hB2 := hB.trans (b2.mono hB.size)
      cases hso : storeOk hs ds with
      | false =>
        go_wp2
        go_ret
        exact ⟨ret_bool (by rw [hu.out, hso]; rfl), hB2⟩
      | true =>
        go_wp2
        go_ret
        exact ⟨ret_bool (by rw [hu.out, hso, Bool.true_and]; exact decide_eq_decide.2 (by omega)), hB2⟩
end Go.Proofs.YtbbdchlabdilcaaGreat
/- Chapter 6's program: an entry that is so, the place of an object. -/
/- Cuts of slices, and an append within the room as one step of a region that draws: of any program. -/
namespace Go.Own
open Go.RowKit

/-- 's[i:]': a value whose elements are those from i on. -/
theorem slice_from {P : Program} {t e : TypeId} {ti : TypeInfo} {sz : Nat} (ht : P.underlying t = some (.slice e)) (hi : P.info? e = some ti) (hs : ti.size = sz) {N : Nat} {w : World} {v : Value} {n : Nat} {cs : List Value} (h : FlatB N w v n sz cs) (i : Nat) (hin : i ≤ n) :
    ∃ v', (∀ w', (Instr.slice t v (some (.int .i64 (i : Int))) none none).run P w' = .ok v' w') ∧ FlatB N w v' (n - i) sz (cs.drop (i * sz)) := by
  obtain ⟨hl, a, cap, rfl, h1, h2, h0, h3⟩ := h
  refine ⟨.slice (if cap = i then a else a.map (·.add (i * sz))) (n - i) (cap - i), fun w' => ?_, ?_, _, cap - i, rfl, by omega, by omega, fun hn => ?_, ?_⟩
  · have e1 : (0 : Int) ≤ (i : Int) := by omega
    have e2 : (i : Int) ≤ (n : Int) := by omega
    simp [Instr.slice, run_underlying ht, Instr.sliceBounds, Instr.sliceBound, asIntOf, sizeOf, typeInfo, hi, hs]
    intro h; omega
  · rw [List.length_drop, hl, Nat.sub_mul]
  · by_cases e : cap = i
    · omega
    · rw [if_neg e] at hn
      cases a with
      | none => have := h0 rfl; omega
      | some ad => cases hn
  · by_cases hz : n - i = 0
    · exact .inl hz
    · rcases h3 with h3 | ⟨b, off, rfl, hs', hc⟩
      · omega
      · refine .inr ⟨b, off + i * sz, ?_, hs', fun j hj => ?_⟩
        · rw [if_neg (by omega)]
          simp [Addr.add_lit]
        · rw [List.length_drop] at hj
          rw [show off + i * sz + j = off + (i * sz + j) from by omega, hc (i * sz + j) (by omega)]
          simp

theorem drop_flatMap {α : Type} (f : α → List Value) (sz : Nat) (hsz : ∀ x, (f x).length = sz) : ∀ (xs : List α) (i : Nat), (xs.flatMap f).drop (i * sz) = (xs.drop i).flatMap f
  | [], i => by simp
  | x :: xs, 0 => by simp
  | x :: xs, i+1 => by
    have e : (i + 1) * sz = sz + i * sz := by rw [Nat.add_mul]; omega
    have e2 : (f x ++ xs.flatMap f).drop sz = xs.flatMap f := by rw [← hsz x]; exact List.drop_left
    rw [List.flatMap_cons, e, ← List.drop_drop, e2, List.drop_succ_cons]
    exact drop_flatMap f sz hsz xs i

/-- An append within the room of a row that the call made, as one step of a region that draws. -/
theorem step_append_fits {P : Program} {ops : Array Oper} {o : Oper} {a : Act} {w : World} {K : Act → World → Prop} {Q : Exit → Act → World → Prop} {E : Prop}
    (hg : o.guard = none) (s x : Operand) (t : TypeId) (hop : o.op = Op.call { callee := Callee.builtin Builtin.append, args := #[s, x], argTypes := #[t, t] })
    (base : Nat) (e : TypeId) (i : TypeInfo) (size : Nat) (h1 : P.underlying t = some (.slice e)) (h2 : P.info? e = some i) (h4 : i.size = size)
    (g k cap : Nat) (xs : List Value) (hs : a.eval s = .slice (some ⟨g, 0, none⟩) k cap) (hown : w.ownsRow base e size (.slice (some ⟨g, 0, none⟩) k cap) k xs) (ad : Addr) (m c : Nat) (news : List Value) (hx : a.eval x = .slice (some ad) m c) (hn : news.length = m * size)
    (hc : ∀ j u, news[j]? = some u → w.cell? (ad.add j) = some u) (h1c : ∀ u ∈ news, u.oneCell' = true) (b1 : k + m ≤ cap)
    (hK : ∀ w', w'.ownsRow base e size (.slice (some ⟨g, 0, none⟩) (k + m) cap) (k + m) (xs ++ news) → w.grownBy w' (some g) → K (a.put o.dst (.slice (some ⟨g, 0, none⟩) (k + m) cap)) w') :
    if Region.wanted o (yielded ops a.tmps) = true then Oper.wp P o a w K Q else E := by
  have hw : Region.wanted o (yielded ops a.tmps) = true := by simp [Region.wanted, hg]
  rw [if_pos hw]
  obtain ⟨w', hrun, r1, r2⟩ := run_append_fits (P := P) w base t o.type e i size h1 h2 h4 g k cap xs hown ad m c news hn hc h1c b1
  unfold Oper.wp
  simp [execOp, hop, resolve, invoke, builtin, hs, hx, hrun, Result.andThen]
  exact hK w' r1 r2
end Go.Own
namespace Go.Proofs.YtbbdchlabdilcaaGreat
set_option maxRecDepth 100000
open Go.RowKit Go.Proofs Go.Own
open Go Go.BigFrame
set_option linter.unusedVariables false
set_option linter.unusedSimpArgs false
theorem impl_isValue (x : Int) (w : World) :
    Calls Tryz.prog 143 #[.int .i64 x] w fun e w' => e = .returned (.bool (isVal x)) ∧ w = w' := by
  go_enter Tryz.func143, Tryz.ntmps143
  go_wp2
  all_goals go_ret
  all_goals (simp [isVal, inB, *]; try omega)
theorem impl_isThread (t : Int) (w : World) :
    Calls Tryz.prog 168 #[.int .i64 t] w fun e w' => e = .returned (.bool (inB t 0 3)) ∧ w = w' := by
  go_enter Tryz.func168, Tryz.ntmps168
  go_wp2
  all_goals go_ret
  all_goals (simp [inB, *]; try omega)
theorem impl_readEntry (o n x : Int) (w : World) :
    Calls Tryz.prog 252 #[.int .i64 o, .int .i64 n, .int .i64 x] w fun e w' => e = .returned (.agg #[.int .i64 o, .int .i64 n, .int .i64 x, .int .i64 x, .bool false]) ∧ Below w.heap.size w w' := by
  go_enter Tryz.func252, Tryz.ntmps252
  go_wp2
  exact bodyPost_ret (v := .agg #[.int .i64 o, .int .i64 n, .int .i64 x, .int .i64 x, .bool false]) (by simp [results, Tryz.results252, go_sem]) rfl ⟨rfl, (by repeat (first | exact Below.refl _ _ | refine below_drewN ?_ _ | refine Below.drew ?_ | refine Below.setCell ?_ (by simp; try omega) _ | refine Below.alloc ?_ (by simp; try omega) _))⟩
theorem eqE_run (a0 a1 a2 a3 : Int) (w : World) : (Op.equalIn 10000 123 (.agg #[.int .i64 a0, .int .i64 a1, .int .i64 a2, .int .i64 a3, .bool false]) (.agg #[.int .i64 a0, .int .i64 a1, .int .i64 a2, .int .i64 a2, .bool false])).run Tryz.prog w = .ok (a3 == a2) w := by
  have u3 := Tryz.underlying3
  have a3' := Tryz.isAgg3
  have z3 := Tryz.sizeOf3
  have u4 := Tryz.underlying4
  have a4' := Tryz.isAgg4
  have z4 := Tryz.sizeOf4
  have hS : Tryz.prog.underlying 123 = some (.struct (Tryz.prog.fieldsOf 123)) := by kernel_rfl
  have hp : Tryz.prog.stoodInHeld 123 = false := by kernel_rfl
  rw [show (10000 : Nat) = 9999 + 1 from rfl, run_equalIn_agg w 9999 123 _ _ hS hp]
  simp only [Program.fieldsOf, Tryz.underlying123]
  go_simp
  by_cases h : a3 = a2 <;> simp [h]
theorem impl_entryOk (e : Entry) (w : World) :
    Calls Tryz.prog 226 #[.agg #[.int .i64 e.object_, .int .i64 e.version_, .int .i64 e.old_, .int .i64 e.new_, .bool e.write_]] w fun r w' => r = .returned (.bool (entryOk e)) ∧ Below w.heap.size w w' := by
  obtain ⟨a0, a1, a2, a3, a4⟩ := e
  have hE := hid (show entryOk ⟨a0, a1, a2, a3, a4⟩ = (inB a0 0 7 && inB a1 0 1000000 && isVal a2 && isVal a3 && (a4 || a3 == a2)) from rfl)
  dsimp only
  have hB := hid (show Below w.heap.size w (w.alloc (.cells #[.int .i64 a0, .int .i64 a1, .int .i64 a2, .int .i64 a3, .bool a4] 123)) from (Below.refl _ _).alloc (Nat.le_refl _) _)
  by_cases h0 : a0 < 0
  · go_enter Tryz.func226, Tryz.ntmps226
    go_wp2
    go_ret
    exact ⟨ret_bool (by rw [hE.out]; have : ¬ 0 ≤ a0 := by omega
                        simp [inB, this]), hB.out⟩
  by_cases h1 : 8 ≤ a0
  · go_enter Tryz.func226, Tryz.ntmps226
    go_wp2
    go_ret
    exact ⟨ret_bool (by rw [hE.out]; have : ¬ a0 ≤ 7 := by omega
                        simp [inB, this]), hB.out⟩
  by_cases h2 : a1 < 0
  · go_enter Tryz.func226, Tryz.ntmps226
    go_wp2
    go_ret
    exact ⟨ret_bool (by rw [hE.out]; have : ¬ 0 ≤ a1 := by omega
                        simp [inB, this]), hB.out⟩
  by_cases h3 : 1000000 < a1
  · go_enter Tryz.func226, Tryz.ntmps226
    go_wp2
    go_ret
    exact ⟨ret_bool (by rw [hE.out]; have : ¬ a1 ≤ 1000000 := by omega
                        simp [inB, this]), hB.out⟩
  have hE2 := hid (show entryOk ⟨a0, a1, a2, a3, a4⟩ = (isVal a2 && (isVal a3 && (a4 || a3 == a2))) by
    rw [hE.out]
    have e1 : inB a0 0 7 = true := by simp [inB]; omega
    have e2 : inB a1 0 1000000 = true := by simp [inB]; omega
    rw [e1, e2, Bool.and_self, Bool.true_and, Bool.and_assoc])
  cases e1 : isVal a2 with
  | false =>
    go_enter Tryz.func226, Tryz.ntmps226
    go_wp2_with (go_at_call 143; refine (impl_isValue _ _).mono ?_; rintro e w' ⟨rfl, rfl⟩)
    go_ret
    exact ⟨ret_bool (by rw [hE2.out, e1]; rfl), hB.out⟩
  | true =>
  cases e2 : isVal a3 with
  | false =>
    go_enter Tryz.func226, Tryz.ntmps226
    go_wp2_with (go_at_call 143; refine (impl_isValue _ _).mono ?_; rintro e w' ⟨rfl, rfl⟩)
    go_ret
    exact ⟨ret_bool (by rw [hE2.out, e1, e2]; rfl), hB.out⟩
  | true =>
  obtain ⟨V, hV⟩ : ∃ X, (w.alloc (.cells #[.int .i64 a0, .int .i64 a1, .int .i64 a2, .int .i64 a3, .bool a4] 123)) = X := ⟨_, rfl⟩
  have hN : w.heap.size < V.heap.size := by rw [← hV]; simp
  have k0 : V.cell? ⟨w.heap.size, 0, none⟩ = some (.int .i64 a0) := by rw [← hV]; simp [go_sem]
  have k1 : V.cell? ⟨w.heap.size, 1, none⟩ = some (.int .i64 a1) := by rw [← hV]; simp [go_sem]
  have k2 : V.cell? ⟨w.heap.size, 2, none⟩ = some (.int .i64 a2) := by rw [← hV]; simp [go_sem]
  have k3 : V.cell? ⟨w.heap.size, 3, none⟩ = some (.int .i64 a3) := by rw [← hV]; simp [go_sem]
  have k4 : V.cell? ⟨w.heap.size, 4, none⟩ = some (.bool a4) := by rw [← hV]; simp [go_sem]
  rw [hV] at hB
  have x0 := Ext.cell hN k0
  have x1 := Ext.cell hN k1
  have x2 := Ext.cell hN k2
  have x3 := Ext.cell hN k3
  have x4 := Ext.cell hN k4
  have hq := fun W => eqE_run a0 a1 a2 a3 W
  have hm : Tryz.prog.eqGuardType Tryz.prog.depth 123 = false := by kernel_rfl
  cases a4 with
  | true =>
    go_enter Tryz.func226, Tryz.ntmps226
    go_wp2_with (go_at_call 143; refine (impl_isValue _ _).mono ?_; rintro e w' ⟨rfl, rfl⟩)
    refine wp_region_ext V (Below.refl _ _) (by kernel_rfl) (by kernel_rfl) ?_
    repeat (go_big_quiet_step (first | (go_at_call 252; exact call_ext _ (impl_readEntry _ _ _ _))))
    refine wpQuiet_nil ?_; rintro _ ⟨E, rfl⟩
    go_wp2
    go_ret
    exact ⟨ret_bool (by rw [hE2.out, e1, e2]; rfl), hB.out.trans (E.h.mono (by omega))⟩
  | false =>
    go_enter Tryz.func226, Tryz.ntmps226
    go_wp2_with (go_at_call 143; refine (impl_isValue _ _).mono ?_; rintro e w' ⟨rfl, rfl⟩)
    refine wp_region_ext V (Below.refl _ _) (by kernel_rfl) (by kernel_rfl) ?_
    repeat (go_big_quiet_step (first | (go_at_call 252; exact call_ext _ (impl_readEntry _ _ _ _))))
    refine wpQuiet_nil ?_; rintro _ ⟨E, rfl⟩
    go_wp2
    go_ret
    exact ⟨ret_bool (by rw [hE2.out, e1, e2]; simp), hB.out.trans (E.h.mono (by omega))⟩
end Go.Proofs.YtbbdchlabdilcaaGreat
/- What chapter 9 stands on: chapter 6's small functions. -/
/- Chapter 9's model: an instruction that is so, ProgOk, Straight. -/
namespace Go.Proofs.YtbbdchlabdilcaaGreat
set_option maxRecDepth 100000
open Go.RowKit Go.Proofs Go.Own
set_option linter.unusedVariables false
set_option linter.unusedSimpArgs false
theorem spec_l9Reg (x : Int) (w : World) :
    Calls Tryz.prog 246 #[.int .i64 x] w fun e w' => e = .returned (.bool (inB x 0 3)) ∧ w = w' := by
  go_enter Tryz.func246, Tryz.ntmps246
  go_wp2_with (go_at_call 128; refine (spec_l1In _ _ _ _).mono ?_; rintro e w' ⟨rfl, rfl⟩)
  go_ret
  exact ⟨rfl, rfl⟩
theorem spec_l9Object (x : Int) (w : World) :
    Calls Tryz.prog 247 #[.int .i64 x] w fun e w' => e = .returned (.bool (inB x 0 7)) ∧ w = w' := by
  go_enter Tryz.func247, Tryz.ntmps247
  go_wp2_with (go_at_call 128; refine (spec_l1In _ _ _ _).mono ?_; rintro e w' ⟨rfl, rfl⟩)
  go_ret
  exact ⟨rfl, rfl⟩
set_option maxHeartbeats 2000000 in
theorem spec_l9Instr (i : Instr) (n : Int) (w : World) :
    Calls Tryz.prog 215 #[.agg #[.int .i64 i.op_, .int .i64 i.a_, .int .i64 i.b_], .int .i64 n] w fun e w' => e = .returned (.bool (instrOk i n)) ∧ Below w.heap.size w w' := by
  obtain ⟨a0, a1, a2⟩ := i
  have hE := hid (show instrOk ⟨a0, a1, a2⟩ n = (if a0 = 1 then inB a1 0 3 && inB a2 0 7 else
  if a0 = 2 then inB a1 0 7 && inB a2 0 3 else
  if a0 = 3 then inB a1 0 3 && isVal a2 else
  if a0 = 4 then inB a1 0 3 && inB a2 0 3 else
  if a0 = 5 then inB a1 0 3 && inB a2 0 n else
  if a0 = 6 then a1 == 0 && a2 == 0 else
  if a0 = 7 then a1 == 0 && a2 == 0 else
  if a0 = 8 then inB a1 0 n && a2 == 0 else false) from rfl)
  dsimp only
  go_enter Tryz.func215, Tryz.ntmps215
  go_wp2_with (first | (go_at_call 246; refine (spec_l9Reg _ _).mono ?_; rintro e w' ⟨rfl, rfl⟩) | (go_at_call 247; refine (spec_l9Object _ _).mono ?_; rintro e w' ⟨rfl, rfl⟩) | (go_at_call 128; refine (spec_l1In _ _ _ _).mono ?_; rintro e w' ⟨rfl, rfl⟩) | (go_at_call 157; refine (spec_l1Value _ _).mono ?_; rintro e w' ⟨rfl, rfl⟩))
  all_goals go_ret
  all_goals refine ⟨ret_bool (by rw [hE.out]; simp_all), (Below.refl _ _).alloc (Nat.le_refl _) _⟩
/-- The cells of an instruction behind a step. -/
theorem cells3 {w wr : World} {b o : Nat} {v0 v1 v2 : Value} (hB : Below w.heap.size w wr) (hb : b < w.heap.size) (c0 : w.cell? ⟨b, o, none⟩ = some v0) (c1 : w.cell? ⟨b, o + 1, none⟩ = some v1) (c2 : w.cell? ⟨b, o + 2, none⟩ = some v2) :
    wr.cell? ⟨b, o, none⟩ = some v0 ∧ wr.cell? ⟨b, o + 1, none⟩ = some v1 ∧ wr.cell? ⟨b, o + 2, none⟩ = some v2 :=
  ⟨(hB.cell (p := ⟨b, o, none⟩) hb).trans c0, (hB.cell (p := ⟨b, o + 1, none⟩) hb).trans c1, (hB.cell (p := ⟨b, o + 2, none⟩) hb).trans c2⟩
set_option maxHeartbeats 2000000 in
theorem spec_ProgOk (v : Value) (xs : List Instr) (w : World) (h : Instrs w v xs) :
    Calls Tryz.prog 155 #[v] w fun e w' => e = .returned (.bool (progOk xs)) ∧ Below w.heap.size w w' := by
  obtain ⟨ad, cap, rfl, hl, hm, hc⟩ := h.open
  clear h
  have hlen : xs.length ≤ 9223372036854775807 := by omega
  have HC := hid hc
  clear hc
  go_enter Tryz.func155, Tryz.ntmps155
  go_wp2
  go_loopw [3] (fun i wr => ∃ k : Nat, k ≤ xs.length ∧ i = .int .i64 k ∧ Same (progAt xs 0) (progAt xs k) ∧ Below w.heap.size w wr) (fun i _ => xs.length - (intOf i).toNat)
  case atStart => exact ⟨0, by omega, rfl, .rfl, Below.refl _ _⟩
  case round =>
    obtain ⟨k, hk, rfl, hS, hB⟩ := hrel
    by_cases hlt : k < xs.length
    · obtain ⟨bb, off, rfl, hbs, c0, c1, c2⟩ := HC.out k hlt
      obtain ⟨e0, e1, e2⟩ := cells3 hB hbs c0 c1 c2
      have hst := hid (progAt_step xs k hlt)
      clear c0 c1 c2
      cases hE : instrOk xs[k] xs.length with
      | false =>
        have Hn := hid (show progOk xs = false by unfold progOk; rw [hS.out, hst.out, hE]; rfl)
        go_wp2_with fail
        refine (spec_l9Instr xs[k] _ _).mono ?_
        rintro e w2 ⟨rfl, hB1⟩
        rw [hE]
        have hB2 := hB.trans (hB1.mono hB.size)
        go_wp2
        go_ret
        exact ⟨ret_bool Hn.out.symm, hB2⟩
      | true =>
        go_wp2_with fail
        refine (spec_l9Instr xs[k] _ _).mono ?_
        rintro e w2 ⟨rfl, hB1⟩
        rw [hE]
        have hB2 := hB.trans (hB1.mono hB.size)
        clear e0 e1 e2 hB1 hB
        go_wp2
        go_roundw
        case rel => exact ⟨k+1, by omega, by go_num, Same.mk (by rw [hS.out, hst.out, hE, Bool.true_and]), hB2⟩
        case measure => simp [intOf]; omega
    · have Hy := hid (show progOk xs = decide (xs.length ≤ 30) by unfold progOk; rw [hS.out, progAt_end xs k hlt, Bool.true_and])
      by_cases h6 : (xs.length : Int) ≤ 30
      · go_wp2
        go_ret
        exact ⟨ret_bool (by rw [Hy.out, decide_eq_true (by omega : xs.length ≤ 30)]), hB⟩
      · go_wp2
        go_ret
        exact ⟨ret_bool (by rw [Hy.out, decide_eq_false (by omega : ¬ xs.length ≤ 30)]), hB⟩
end Go.Proofs.YtbbdchlabdilcaaGreat
/- A region in the text's order, walked as a quiet one: in all worlds grown out of W. Of any program. -/
namespace Go.Own
open Go.RowKit
theorem wpList_of_quiet {P : Program} {ops : Array Oper} {C : World → Prop} {Qa : Act → Prop} {Q : Exit → Act → World → Prop} (hQ : ∀ a' w', C w' → Qa a' → Q .normal a' w') : ∀ (l : List Oper) (a : Act) (w : World), C w → wpQuiet P ops C Qa l a → wpList P ops Q l a w
  | [], a, w, hw, h => hQ _ _ hw h
  | o :: rest, a, w, hw, h => by
    unfold wpQuiet at h
    refine wpList_step fun K hK => ?_
    split
    · rename_i hwt
      rw [if_pos hwt] at h
      obtain ⟨v, hv, hk⟩ := h
      have h1 := hv w hw
      unfold Oper.quietAt at h1
      unfold Oper.wp
      generalize (execOp a.eval o).run P w = r at *
      cases r with
      | ok n w' =>
        cases n <;> simp only [Oper.quietUpon] at h1 <;> simp only [Oper.upon]
        · obtain ⟨rfl, rfl⟩ := h1
          exact hK _ _ (wpList_of_quiet hQ rest _ _ hw hk)
        · obtain ⟨rfl, rfl⟩ := h1
          exact hK _ _ (wpList_of_quiet hQ rest _ _ hw hk)
        · obtain ⟨rfl, h1⟩ := h1
          refine h1.mono ?_
          rintro e w'' ⟨rfl, hC⟩
          exact hK _ _ (wpList_of_quiet hQ rest _ _ hC hk)
      | halt x w' => simp only [Oper.quietUpon] at h1
    · rename_i hwt
      rw [if_neg hwt] at h
      exact hK _ _ (wpList_of_quiet hQ rest _ _ hw h)
/-- A region that keeps to its order: one walk, in all worlds grown out of W. -/
theorem wp_region_ext0 {P : Program} {id : Nat} {Q : Exit → Act → World → Prop} {a : Act} {w : World} {l : List Oper} (W : World) (hW : Below W.heap.size W w)
    (h : wpQuiet P l.toArray (fun w' => ∃ e : Ext W, w' = e.w) (fun a' => ∀ w', (∃ e : Ext W, w' = e.w) → Q .normal a' w') l a) : (Code.region id l.toArray false).wp P Q a w :=
  wp_region_lit (wpList_of_quiet (fun a' w' hC h => h w' hC) l a w ⟨⟨w, hW⟩, rfl⟩ h)
end Go.Own
/- A whole struct out of a box and into it in one step, however many cells it has. Of any program. -/
namespace Go.Own
open Go.RowKit
theorem Box.range {w : World} {b : Nat} {cs : List Value} (h : Box w b cs) : w.rangeAt b 0 cs := fun j v hj => by
  have hl : j < cs.length := by
    rcases Nat.lt_or_ge j cs.length with h1 | h1
    · exact h1
    · rw [List.getElem?_eq_none h1] at hj; cases hj
  rw [Nat.zero_add, h.2 j hl]; exact hj
theorem BoxF.there {w : World} {b : Nat} {cs : List Value} {n : Nat} (h : BoxF w b cs) (hn : n = cs.length) : w.there b 0 n := fun j hj => by
  subst hn
  rw [Nat.zero_add]
  exact ⟨by rw [h.1.2 j hj, List.getElem?_eq_getElem hj]; rfl, h.2 j hj⟩
theorem below_setCells {N : Nat} {w0 : World} (b : Nat) (hb : N ≤ b) : ∀ (vs : List Value) (o : Nat) (w : World), Below N w0 w → Below N w0 (w.setCells b o vs)
  | [], _, _, h => h
  | v :: r, o, w, h => below_setCells b hb r (o + 1) _ (h.setCell (p := ⟨b, o, none⟩) hb v)
theorem chg_setCells {S : Nat → Prop} {w0 : World} (b : Nat) (hb : S b) : ∀ (vs : List Value) (o : Nat) (w : World), ChgS S w0 w → ChgS S w0 (w.setCells b o vs)
  | [], _, _, h => h
  | v :: r, o, w, h => chg_setCells b hb r (o + 1) _ (h.set ⟨b, o, none⟩ v hb)
theorem size_setCells (b : Nat) : ∀ (vs : List Value) (o : Nat) (w : World), (w.setCells b o vs).heap.size = w.heap.size
  | [], _, _ => rfl
  | v :: r, o, w => by rw [World.setCells, size_setCells b r (o + 1)]; simp [World.setCell]
theorem box_setGo (b : Nat) : ∀ (vs pre : List Value) (w : World) (cs : List Value), BoxF w b (pre ++ cs) → cs.length = vs.length → BoxF (w.setCells b pre.length vs) b (pre ++ vs)
  | [], pre, w, cs, h, hl => by
    obtain rfl : cs = [] := List.eq_nil_of_length_eq_zero hl
    exact h
  | v :: r, pre, w, [], h, hl => by cases hl
  | v :: r, pre, w, c :: cs, h, hl => by
    have h1 := h.set pre.length (by simp) v
    rw [show (pre ++ c :: cs).set pre.length v = (pre ++ [v]) ++ cs by simp] at h1
    have h2 := box_setGo b r (pre ++ [v]) _ cs h1 (by simpa using hl)
    rw [show (pre ++ [v]).length = pre.length + 1 by simp] at h2
    rw [World.setCells]
    simpa using h2
theorem BoxF.setCells {w : World} {b : Nat} {cs : List Value} (h : BoxF w b cs) (vs : List Value) (hl : cs.length = vs.length) : BoxF (w.setCells b 0 vs) b vs := by
  have := box_setGo b vs [] w cs h hl
  simpa using this
section
variable {P : Program}
/-- A struct stored whole into its box: the box holds it behind that, all else is as it was. -/
theorem wpList_store_box {ops : Array Oper} {rest : List Oper} {op : Oper} {a : Act} {w : World} {Q : Exit → Act → World → Prop} (hgd : op.guard = none) (ty : TypeId) (x y : Operand) (ho : op.op = .store ty x y)
    (b : Nat) (cs vs : List Value) (hb : BoxF w b cs) (hx : a.eval x = .pointer (some ⟨b, 0, none⟩)) (hy : a.eval y = .agg vs.toArray) (hl : cs.length = vs.length)
    (hi : (P.info? ty).map (·.size) = some vs.length) (h1 : vs.all (·.oneCell') = true)
    (h : ∀ w', BoxF w' b vs → ChgS (fun k => k = b) w w' → wpList P ops Q rest (a.put op.dst undef) w') : wpList P ops Q (op :: rest) a w :=
  wpList_store_mid hgd ty x y ho b 0 vs.toArray hx hy (hb.there (by simp [hl])) (by simpa using hi) (all_oneCell_toArray (by simpa using h1))
    (h _ (by simpa using hb.setCells vs hl) (chg_setCells (S := fun k => k = b) b rfl _ 0 w (ChgS.refl _ _)))
/-- A struct loaded whole. -/
theorem wpList_load_box {ops : Array Oper} {rest : List Oper} {op : Oper} {a : Act} {w : World} {Q : Exit → Act → World → Prop} (hgd : op.guard = none) (ty : TypeId) (x : Operand) (ho : op.op = .load ty x)
    (b : Nat) (cs : List Value) (hb : Box w b cs) (hx : a.eval x = .pointer (some ⟨b, 0, none⟩)) (d : TypeDesc) (hu : P.underlying ty = some d) (hd : d.isRow = true) (hi : (P.info? ty).map (·.size) = some cs.length)
    (h : wpList P ops Q rest (a.put op.dst (.agg cs.toArray)) w) : wpList P ops Q (op :: rest) a w :=
  wpList_load_mid hgd ty x ho b 0 hx cs d hb.range hu hd hi h
end
end Go.Own
