/- Chapter 8's model: a stack copied; StackOk. -/
import Derived.Test.YtbbdchlabdilcaaGreatS7d
import Derived.Test.YtbbdchlabdilcaaGreatF8
import Derived.Test.YtbbdchlabdilcaaGreatN8o
import Derived.Test.YtbbdchlabdilcaaGreatM1
import Derived.Deep.RegionLaw
import Derived.Test.YtbbdchlabdilcaaGreatM7
import Derived.Laws.StructEq
namespace Go.Proofs.YtbbdchlabdilcaaGreat
set_option maxRecDepth 100000
open Go.RowKit Go.Proofs Go.Own
open Go Go.BigFrame
set_option linter.unusedVariables false
set_option linter.unusedSimpArgs false
theorem oneCell_F (xs : List Frame) : ∀ c ∈ xs.flatMap Frame.enc, c.oneCell' = true := oneCell_enc (f := Frame.enc) (by intro x c hc; simp [Frame.enc] at hc; rcases hc with rfl | rfl | rfl <;> rfl) xs
theorem spec_l8Copy (v : Value) (xs : List Frame) (w : World) (h : rdsL w v xs) (hx : xs.length ≤ 1048576) :
    Calls Tryz.prog 153 #[v] w fun e w' => ∃ v', ∃ S : Nat → Prop, e = .returned v' ∧ ownL S w' v' xs ∧ (∀ k, S k → Rg w.heap.size w'.heap.size k) ∧ Below w.heap.size w w' := by
  obtain ⟨i0, hi, hz0, hz1, hz2⟩ := info_parts infoFrame
  have hone := hid (oneCell_F xs)
  have h := rdsFrames.1 h
  obtain ⟨ad, cap, rfl, hl, hm⟩ := Flat.form h
  have hown : (w.alloc (.cells #[] 221)).ownsRow w.heap.size 221 3 (.slice (some ⟨w.heap.size, 0, none⟩) 0 0) 0 [] := World.ownsRow_made _ _ _ (Nat.le_refl _) (Nat.zero_le _) rfl
  have hB : Below w.heap.size w (w.alloc (.cells #[] 221)) := (Below.refl _ _).alloc (Nat.le_refl _) _
  have h2 := Flat.below h hB
  go_enter Tryz.func153, Tryz.ntmps153
  go_wp2_with (at_builtin; refine wpList_append_flat rfl _ _ 49 rfl w.heap.size 221 i0 (.agg #[.int .i64 0, .int .i64 0, .int .i64 0]) 3 24 Tryz.underlying49 hi hz0 hz1 hz2 rfl (by decide) _ _ _ rfl hown _ _ _ rfl h2 hone.out (by unfold maxLen; omega) (by omega) (by simp) ?_)
  intro v' w1 ho hg
  have hB1 := hB.trans (below_of_mark hown hg (Nat.le_refl _) (by simp))
  go_wp2
  go_ret
  exact ⟨_, _, rfl, ownFrame_of (by simpa using ho), fun _ h => h, hB1⟩
set_option maxHeartbeats 8000000 in
theorem spec_StackOk0 (hs : List Head) (ds : List DescD) (st : List Frame) (v0 v1 v2 : Value) (w : World) (h0 : rdsL w v0 hs) (h1 : rdsL w v1 ds) (h2 : rdsL w v2 st) :
    Calls Tryz.prog 154 #[.agg #[v0, v1], v2] w fun e w' => e = .returned (.bool (stackOk hs ds st)) ∧ Below w.heap.size w w' := by
  have H0 := hid h0
  have H1 := hid h1
  obtain ⟨a0, cap0, rfl, hl0, hm0, -⟩ := rdsL_open h0
  obtain ⟨a1, cap1, rfl, hl1, hm1, -⟩ := rdsL_open h1
  obtain ⟨a2, cap2, rfl, hl2, hm2, hc2⟩ := rdsL_open h2
  have HC := hid hc2
  clear h0 h1 h2 hc2
  have hlen2 : st.length ≤ 9223372036854775807 := by omega
  obtain ⟨W1, hW1⟩ : ∃ X, w.alloc (.cells #[Value.slice a0 hs.length cap0, Value.slice a1 ds.length cap1] 28) = X := ⟨_, rfl⟩
  have hB1 : Below w.heap.size w W1 := by rw [← hW1]; exact (Below.refl _ _).alloc (Nat.le_refl _) _
  have BP : Hid (BoxF W1 w.heap.size [Value.slice a0 hs.length cap0, Value.slice a1 ds.length cap1]) := by rw [← hW1]; exact hid (BoxF.alloc w #[Value.slice a0 hs.length cap0, Value.slice a1 ds.length cap1] 28)
  go_enter Tryz.func154, Tryz.ntmps154
  go_wp2
  go_loopw [5] (fun i wr => ∃ k : Nat, k ≤ st.length ∧ i = .int .i64 k ∧ Same ((st.drop k).all (stkIn hs ds)) (st.all (stkIn hs ds)) ∧ Below w.heap.size w wr ∧ Hid (BoxF wr w.heap.size [Value.slice a0 hs.length cap0, Value.slice a1 ds.length cap1])) (fun i _ => st.length - (intOf i).toNat)
  case atStart => exact ⟨0, by omega, rfl, .rfl, hB1, BP⟩
  case round =>
    clear hW1 hB1 BP
    clear W1
    obtain ⟨k, hk, rfl, hS, hB, BP⟩ := hrel
    by_cases hlt : k < st.length
    · have hst := hid (all_step (stkIn hs ds) st k hlt)
      obtain ⟨bb, off, cs, rfl, hbs, rfl, hcell⟩ := HC.out k hlt
      have hbr := Nat.lt_of_lt_of_le hbs hB.size
      have y0 := Ext.cell hbr ((hB.cell (p := ⟨bb, off + k * 3, none⟩) hbs).trans (show w.cell? ⟨bb, off + k * 3, none⟩ = some (.int .i64 st[k].desc_) from hcell 0 (show 0 < 3 by omega)))
      have y1 := Ext.cell hbr ((hB.cell (p := ⟨bb, off + k * 3 + 1, none⟩) hbs).trans (show w.cell? ⟨bb, off + k * 3 + 1, none⟩ = some (.int .i64 st[k].phase_) from hcell 1 (show 1 < 3 by omega)))
      have y2 := Ext.cell hbr ((hB.cell (p := ⟨bb, off + k * 3 + 2, none⟩) hbs).trans (show w.cell? ⟨bb, off + k * 3 + 2, none⟩ = some (.int .i64 st[k].at_) from hcell 2 (show 2 < 3 by omega)))
      have x0 := Ext.cell BP.out.1.1 (show wr.cell? ⟨w.heap.size, 0, none⟩ = some (Value.slice a0 hs.length cap0) from BP.out.1.2 0 (by simp))
      have x1 := Ext.cell BP.out.1.1 (show wr.cell? ⟨w.heap.size, 1, none⟩ = some (Value.slice a1 ds.length cap1) from BP.out.1.2 1 (by simp))
      have HR0 := hid (rdsL.below H0.out hB)
      have HR1 := hid (rdsL.below H1.out hB)
      have hki : (k : Int) < (st.length : Int) := by omega
      have hk0 : (0 : Int) ≤ (k : Int) := by omega
      clear hcell HC H0 H1
      by_cases hp : st[k].phase_ = 5
      · have hp' : (st[k].phase_ == 5) = true := by rw [beq_iff_eq]; exact hp
        have hn : Hid (stkIn hs ds st[k] = false) := hid (by unfold stkIn; rw [decide_eq_true hp]; rfl)
        clear hp
        go_wp2_with fail
        refine wp_region_ext wr (Below.refl _ _) (by kernel_rfl) (by kernel_rfl) ?_
        repeat (go_big_quiet_step (fail))
        refine wpQuiet_nil ?_; rintro _ ⟨E, rfl⟩
        have hBE := hid (hB.trans (E.h.mono hB.size))
        clear x0 x1 y0 y1 y2
        go_wp2
        go_ret
        exact ⟨ret_bool (by unfold stackOk; rw [← hS.out, hst.out, hn.out, Bool.false_and, Bool.and_false]), hBE.out⟩
      · have hp' : (st[k].phase_ == 5) = false := by rw [beq_eq_false_iff_ne]; exact hp
        have hn : Hid (stkIn hs ds st[k] = frameOk hs ds st[k]) := hid (by unfold stkIn; rw [decide_eq_false hp]; rfl)
        clear hp
        obtain ⟨FB, hFB⟩ : ∃ FB, Hid (frameOk hs ds st[k] = FB) := ⟨_, hid rfl⟩
        have hFo := hFB.out
        go_wp2_with fail
        refine wp_region_ext wr (Below.refl _ _) (by kernel_rfl) (by kernel_rfl) ?_
        repeat (go_big_quiet_step (first | (go_at_call 214; exact call_ext _ (spec_FrameOk0 hs ds _ _ st[k] _ (rdsL.below HR0.out (Ext.h _)) (rdsL.below HR1.out (Ext.h _))))))
        refine wpQuiet_nil ?_; rintro _ ⟨E, rfl⟩
        have hBE := hid (hB.trans (E.h.mono hB.size))
        have BPE := hid (BP.out.below E.h)
        have hBE2 := hBE.out
        clear x0 x1 y0 y1 y2 hFo HR0 HR1 BP hB
        cases FB with
        | false =>
          go_wp2
          go_ret
          exact ⟨ret_bool (by unfold stackOk; rw [← hS.out, hst.out, hn.out, hFB.out, Bool.false_and, Bool.and_false]), hBE.out⟩
        | true =>
          clear hBE2
          go_wp2
          go_roundw
          case rel => exact ⟨k+1, by omega, by go_num, Same.mk (by rw [← hS.out, hst.out, hn.out, hFB.out, Bool.true_and]), hBE.out, BPE⟩
          case measure => simp [intOf]; omega
    · obtain rfl : k = st.length := by omega
      have hAll := hid (show st.all (stkIn hs ds) = true by rw [← hS.out]; exact all_end _ _ _ (by omega))
      have hu := hid (show stackOk hs ds st = (storeOk hs ds && decide (st.length ≤ 130)) by unfold stackOk; rw [hAll.out, Bool.and_true])
      have x0 : wr.cell? ⟨w.heap.size, 0, none⟩ = some (Value.slice a0 hs.length cap0) := BP.out.1.2 0 (by simp)
      have x1 : wr.cell? ⟨w.heap.size, 1, none⟩ = some (Value.slice a1 ds.length cap1) := BP.out.1.2 1 (by simp)
      have R0 := hid (rdsL.below H0.out hB)
      have R1 := hid (rdsL.below H1.out hB)
      go_wp2_with fail
      refine (spec_StoreOk0 hs ds _ _ _ R0.out R1.out).mono ?_
      rintro e w2 ⟨rfl, b2⟩
      have hB2 := hB.trans (b2.mono hB.size)
      cases hso : storeOk hs ds with
      | false =>
        go_wp2
        go_ret
        exact ⟨ret_bool (by rw [hu.out, hso]; rfl), hB2⟩
      | true =>
        go_wp2
        go_ret
        exact ⟨ret_bool (by rw [hu.out, hso, Bool.true_and]; exact decide_eq_decide.2 (by omega)), hB2⟩
end Go.Proofs.YtbbdchlabdilcaaGreat
/- Chapter 6's program: an entry that is so, the place of an object. -/
/- Cuts of slices, and an append within the room as one step of a region that draws: of any program. -/
namespace Go.Own
open Go.RowKit

/-- 's[i:]': a value whose elements are those from i on. -/
theorem slice_from {P : Program} {t e : TypeId} {ti : TypeInfo} {sz : Nat} (ht : P.underlying t = some (.slice e)) (hi : P.info? e = some ti) (hs : ti.size = sz) {N : Nat} {w : World} {v : Value} {n : Nat} {cs : List Value} (h : FlatB N w v n sz cs) (i : Nat) (hin : i ≤ n) :
    ∃ v', (∀ w', (Instr.slice t v (some (.int .i64 (i : Int))) none none).run P w' = .ok v' w') ∧ FlatB N w v' (n - i) sz (cs.drop (i * sz)) := by
  obtain ⟨hl, a, cap, rfl, h1, h2, h0, h3⟩ := h
  refine ⟨.slice (if cap = i then a else a.map (·.add (i * sz))) (n - i) (cap - i), fun w' => ?_, ?_, _, cap - i, rfl, by omega, by omega, fun hn => ?_, ?_⟩
  · have e1 : (0 : Int) ≤ (i : Int) := by omega
    have e2 : (i : Int) ≤ (n : Int) := by omega
    simp [Instr.slice, run_underlying ht, Instr.sliceBounds, Instr.sliceBound, asIntOf, sizeOf, typeInfo, hi, hs]
    intro h; omega
  · rw [List.length_drop, hl, Nat.sub_mul]
  · by_cases e : cap = i
    · omega
    · rw [if_neg e] at hn
      cases a with
      | none => have := h0 rfl; omega
      | some ad => cases hn
  · by_cases hz : n - i = 0
    · exact .inl hz
    · rcases h3 with h3 | ⟨b, off, rfl, hs', hc⟩
      · omega
      · refine .inr ⟨b, off + i * sz, ?_, hs', fun j hj => ?_⟩
        · rw [if_neg (by omega)]
          simp [Addr.add_lit]
        · rw [List.length_drop] at hj
          rw [show off + i * sz + j = off + (i * sz + j) from by omega, hc (i * sz + j) (by omega)]
          simp

theorem drop_flatMap {α : Type} (f : α → List Value) (sz : Nat) (hsz : ∀ x, (f x).length = sz) : ∀ (xs : List α) (i : Nat), (xs.flatMap f).drop (i * sz) = (xs.drop i).flatMap f
  | [], i => by simp
  | x :: xs, 0 => by simp
  | x :: xs, i+1 => by
    have e : (i + 1) * sz = sz + i * sz := by rw [Nat.add_mul]; omega
    have e2 : (f x ++ xs.flatMap f).drop sz = xs.flatMap f := by rw [← hsz x]; exact List.drop_left
    rw [List.flatMap_cons, e, ← List.drop_drop, e2, List.drop_succ_cons]
    exact drop_flatMap f sz hsz xs i

/-- An append within the room of a row that the call made, as one step of a region that draws. -/
theorem step_append_fits {P : Program} {ops : Array Oper} {o : Oper} {a : Act} {w : World} {K : Act → World → Prop} {Q : Exit → Act → World → Prop} {E : Prop}
    (hg : o.guard = none) (s x : Operand) (t : TypeId) (hop : o.op = Op.call { callee := Callee.builtin Builtin.append, args := #[s, x], argTypes := #[t, t] })
    (base : Nat) (e : TypeId) (i : TypeInfo) (size : Nat) (h1 : P.underlying t = some (.slice e)) (h2 : P.info? e = some i) (h4 : i.size = size)
    (g k cap : Nat) (xs : List Value) (hs : a.eval s = .slice (some ⟨g, 0, none⟩) k cap) (hown : w.ownsRow base e size (.slice (some ⟨g, 0, none⟩) k cap) k xs) (ad : Addr) (m c : Nat) (news : List Value) (hx : a.eval x = .slice (some ad) m c) (hn : news.length = m * size)
    (hc : ∀ j u, news[j]? = some u → w.cell? (ad.add j) = some u) (h1c : ∀ u ∈ news, u.oneCell' = true) (b1 : k + m ≤ cap)
    (hK : ∀ w', w'.ownsRow base e size (.slice (some ⟨g, 0, none⟩) (k + m) cap) (k + m) (xs ++ news) → w.grownBy w' (some g) → K (a.put o.dst (.slice (some ⟨g, 0, none⟩) (k + m) cap)) w') :
    if Region.wanted o (yielded ops a.tmps) = true then Oper.wp P o a w K Q else E := by
  have hw : Region.wanted o (yielded ops a.tmps) = true := by simp [Region.wanted, hg]
  rw [if_pos hw]
  obtain ⟨w', hrun, r1, r2⟩ := run_append_fits (P := P) w base t o.type e i size h1 h2 h4 g k cap xs hown ad m c news hn hc h1c b1
  unfold Oper.wp
  simp [execOp, hop, resolve, invoke, builtin, hs, hx, hrun, Result.andThen]
  exact hK w' r1 r2
end Go.Own
namespace Go.Proofs.YtbbdchlabdilcaaGreat
set_option maxRecDepth 100000
open Go.RowKit Go.Proofs Go.Own
open Go Go.BigFrame
set_option linter.unusedVariables false
set_option linter.unusedSimpArgs false
theorem impl_isValue (x : Int) (w : World) :
    Calls Tryz.prog 143 #[.int .i64 x] w fun e w' => e = .returned (.bool (isVal x)) ∧ w = w' := by
  go_enter Tryz.func143, Tryz.ntmps143
  go_wp2
  all_goals go_ret
  all_goals (simp [isVal, inB, *]; try omega)
theorem impl_isThread (t : Int) (w : World) :
    Calls Tryz.prog 168 #[.int .i64 t] w fun e w' => e = .returned (.bool (inB t 0 3)) ∧ w = w' := by
  go_enter Tryz.func168, Tryz.ntmps168
  go_wp2
  all_goals go_ret
  all_goals (simp [inB, *]; try omega)
theorem impl_readEntry (o n x : Int) (w : World) :
    Calls Tryz.prog 252 #[.int .i64 o, .int .i64 n, .int .i64 x] w fun e w' => e = .returned (.agg #[.int .i64 o, .int .i64 n, .int .i64 x, .int .i64 x, .bool false]) ∧ Below w.heap.size w w' := by
  go_enter Tryz.func252, Tryz.ntmps252
  go_wp2
  exact bodyPost_ret (v := .agg #[.int .i64 o, .int .i64 n, .int .i64 x, .int .i64 x, .bool false]) (by simp [results, Tryz.results252, go_sem]) rfl ⟨rfl, (by repeat (first | exact Below.refl _ _ | refine below_drewN ?_ _ | refine Below.drew ?_ | refine Below.setCell ?_ (by simp; try omega) _ | refine Below.alloc ?_ (by simp; try omega) _))⟩
theorem eqE_run (a0 a1 a2 a3 : Int) (w : World) : (Op.equalIn 10000 123 (.agg #[.int .i64 a0, .int .i64 a1, .int .i64 a2, .int .i64 a3, .bool false]) (.agg #[.int .i64 a0, .int .i64 a1, .int .i64 a2, .int .i64 a2, .bool false])).run Tryz.prog w = .ok (a3 == a2) w := by
  have u3 := Tryz.underlying3
  have a3' := Tryz.isAgg3
  have z3 := Tryz.sizeOf3
  have u4 := Tryz.underlying4
  have a4' := Tryz.isAgg4
  have z4 := Tryz.sizeOf4
  have hS : Tryz.prog.underlying 123 = some (.struct (Tryz.prog.fieldsOf 123)) := by kernel_rfl
  have hp : Tryz.prog.stoodInHeld 123 = false := by kernel_rfl
  rw [show (10000 : Nat) = 9999 + 1 from rfl, run_equalIn_agg w 9999 123 _ _ hS hp]
  simp only [Program.fieldsOf, Tryz.underlying123]
  go_simp
  by_cases h : a3 = a2 <;> simp [h]
theorem impl_entryOk (e : Entry) (w : World) :
    Calls Tryz.prog 226 #[.agg #[.int .i64 e.object_, .int .i64 e.version_, .int .i64 e.old_, .int .i64 e.new_, .bool e.write_]] w fun r w' => r = .returned (.bool (entryOk e)) ∧ Below w.heap.size w w' := by
  obtain ⟨a0, a1, a2, a3, a4⟩ := e
  have hE := hid (show entryOk ⟨a0, a1, a2, a3, a4⟩ = (inB a0 0 7 && inB a1 0 1000000 && isVal a2 && isVal a3 && (a4 || a3 == a2)) from rfl)
  dsimp only
  have hB := hid (show Below w.heap.size w (w.alloc (.cells #[.int .i64 a0, .int .i64 a1, .int .i64 a2, .int .i64 a3, .bool a4] 123)) from (Below.refl _ _).alloc (Nat.le_refl _) _)
  by_cases h0 : a0 < 0
  · go_enter Tryz.func226, Tryz.ntmps226
    go_wp2
    go_ret
    exact ⟨ret_bool (by rw [hE.out]; have : ¬ 0 ≤ a0 := by omega
                        simp [inB, this]), hB.out⟩
  by_cases h1 : 8 ≤ a0
  · go_enter Tryz.func226, Tryz.ntmps226
    go_wp2
    go_ret
    exact ⟨ret_bool (by rw [hE.out]; have : ¬ a0 ≤ 7 := by omega
                        simp [inB, this]), hB.out⟩
  by_cases h2 : a1 < 0
  · go_enter Tryz.func226, Tryz.ntmps226
    go_wp2
    go_ret
    exact ⟨ret_bool (by rw [hE.out]; have : ¬ 0 ≤ a1 := by omega
                        simp [inB, this]), hB.out⟩
  by_cases h3 : 1000000 < a1
  · go_enter Tryz.func226, Tryz.ntmps226
    go_wp2
    go_ret
    exact ⟨ret_bool (by rw [hE.out]; have : ¬ a1 ≤ 1000000 := by omega
                        simp [inB, this]), hB.out⟩
  have hE2 := hid (show entryOk ⟨a0, a1, a2, a3, a4⟩ = (isVal a2 && (isVal a3 && (a4 || a3 == a2))) by
    rw [hE.out]
    have e1 : inB a0 0 7 = true := by simp [inB]; omega
    have e2 : inB a1 0 1000000 = true := by simp [inB]; omega
    rw [e1, e2, Bool.and_self, Bool.true_and, Bool.and_assoc])
  cases e1 : isVal a2 with
  | false =>
    go_enter Tryz.func226, Tryz.ntmps226
    go_wp2_with (go_at_call 143; refine (impl_isValue _ _).mono ?_; rintro e w' ⟨rfl, rfl⟩)
    go_ret
    exact ⟨ret_bool (by rw [hE2.out, e1]; rfl), hB.out⟩
  | true =>
  cases e2 : isVal a3 with
  | false =>
    go_enter Tryz.func226, Tryz.ntmps226
    go_wp2_with (go_at_call 143; refine (impl_isValue _ _).mono ?_; rintro e w' ⟨rfl, rfl⟩)
    go_ret
    exact ⟨ret_bool (by rw [hE2.out, e1, e2]; rfl), hB.out⟩
  | true =>
  obtain ⟨V, hV⟩ : ∃ X, (w.alloc (.cells #[.int .i64 a0, .int .i64 a1, .int .i64 a2, .int .i64 a3, .bool a4] 123)) = X := ⟨_, rfl⟩
  have hN : w.heap.size < V.heap.size := by rw [← hV]; simp
  have k0 : V.cell? ⟨w.heap.size, 0, none⟩ = some (.int .i64 a0) := by rw [← hV]; simp [go_sem]
  have k1 : V.cell? ⟨w.heap.size, 1, none⟩ = some (.int .i64 a1) := by rw [← hV]; simp [go_sem]
  have k2 : V.cell? ⟨w.heap.size, 2, none⟩ = some (.int .i64 a2) := by rw [← hV]; simp [go_sem]
  have k3 : V.cell? ⟨w.heap.size, 3, none⟩ = some (.int .i64 a3) := by rw [← hV]; simp [go_sem]
  have k4 : V.cell? ⟨w.heap.size, 4, none⟩ = some (.bool a4) := by rw [← hV]; simp [go_sem]
  rw [hV] at hB
  have x0 := Ext.cell hN k0
  have x1 := Ext.cell hN k1
  have x2 := Ext.cell hN k2
  have x3 := Ext.cell hN k3
  have x4 := Ext.cell hN k4
  have hq := fun W => eqE_run a0 a1 a2 a3 W
  have hm : Tryz.prog.eqGuardType Tryz.prog.depth 123 = false := by kernel_rfl
  cases a4 with
  | true =>
    go_enter Tryz.func226, Tryz.ntmps226
    go_wp2_with (go_at_call 143; refine (impl_isValue _ _).mono ?_; rintro e w' ⟨rfl, rfl⟩)
    refine wp_region_ext V (Below.refl _ _) (by kernel_rfl) (by kernel_rfl) ?_
    repeat (go_big_quiet_step (first | (go_at_call 252; exact call_ext _ (impl_readEntry _ _ _ _))))
    refine wpQuiet_nil ?_; rintro _ ⟨E, rfl⟩
    go_wp2
    go_ret
    exact ⟨ret_bool (by rw [hE2.out, e1, e2]; rfl), hB.out.trans (E.h.mono (by omega))⟩
  | false =>
    go_enter Tryz.func226, Tryz.ntmps226
    go_wp2_with (go_at_call 143; refine (impl_isValue _ _).mono ?_; rintro e w' ⟨rfl, rfl⟩)
    refine wp_region_ext V (Below.refl _ _) (by kernel_rfl) (by kernel_rfl) ?_
    repeat (go_big_quiet_step (first | (go_at_call 252; exact call_ext _ (impl_readEntry _ _ _ _))))
    refine wpQuiet_nil ?_; rintro _ ⟨E, rfl⟩
    go_wp2
    go_ret
    exact ⟨ret_bool (by rw [hE2.out, e1, e2]; simp), hB.out.trans (E.h.mono (by omega))⟩
end Go.Proofs.YtbbdchlabdilcaaGreat
