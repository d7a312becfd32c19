/- Chapter 15's model: a tree built of its keys: l15Build. -/
import Derived.Test.YtdgmbcmgjadoiaaS15b
import Derived.Test.YtdgmbcmgjadoiaaS15
import Derived.Test.YtdgmbcmgjadoiaaAr
import Derived.Test.YtdgmbcmgjadoiaaMid
import Derived.Test.YtdgmbcmgjadoiaaWr3
import Derived.Test.YtdgmbcmgjadoiaaOv3
import Derived.Deep.Cut
namespace Go.Own
open Go.RowKit
section
variable {P : Program}
theorem wpList_load_boxg {ops : Array Oper} {rest : List Oper} {op : Oper} {a : Act} {w : World} {Q : Exit → Act → World → Prop} (hgd : Region.wanted op (yielded ops a.tmps) = true) (ty : TypeId) (x : Operand) (ho : op.op = .load ty x)
    (b : Nat) (cs : List Value) (hb : Box w b cs) (hx : a.eval x = .pointer (some ⟨b, 0, none⟩)) (d : TypeDesc) (hu : P.underlying ty = some d) (hd : d.isRow = true) (hi : (P.info? ty).map (·.size) = some cs.length)
    (h : wpList P ops Q rest (a.put op.dst (.agg cs.toArray)) w) : wpList P ops Q (op :: rest) a w := by
  refine wpList_step fun K hK => ?_
  rw [if_pos hgd]
  unfold Oper.wp execOp
  simp only [ho, hx, Instr.loadAt, Instr.sureAddr, Sem.run_bind, Sem.run_pure, Result.andThen_ok, run_loadVar_mid w b 0 ty cs d hb.range hu hd hi]
  exact hK _ _ h
/-- A struct in its box, loaded whole and stored whole: as steps of a region that draws. -/
theorem step_load_box {ops : Array Oper} {o : Oper} {a : Act} {w : World} {K : Act → World → Prop} {Q : Exit → Act → World → Prop} {E : Prop} (hg : o.guard = none) (ty : TypeId) (x : Operand) (hop : o.op = .load ty x)
    (b : Nat) (cs : List Value) (hb : Box w b cs) (hx : a.eval x = .pointer (some ⟨b, 0, none⟩)) (d : TypeDesc) (hu : P.underlying ty = some d) (hd : d.isRow = true) (hi : (P.info? ty).map (·.size) = some cs.length)
    (hK : K (a.put o.dst (.agg cs.toArray)) w) : if Region.wanted o (yielded ops a.tmps) = true then Oper.wp P o a w K Q else E := by
  have hw : Region.wanted o (yielded ops a.tmps) = true := by simp [Region.wanted, hg]
  rw [if_pos hw]
  unfold Oper.wp execOp
  simp only [hop, hx, Instr.loadAt, Instr.sureAddr, Sem.run_bind, Sem.run_pure, Result.andThen_ok, run_loadVar_mid w b 0 ty cs d hb.range hu hd hi]
  exact hK
theorem step_store_box {ops : Array Oper} {o : Oper} {a : Act} {w : World} {K : Act → World → Prop} {Q : Exit → Act → World → Prop} {E : Prop} (hg : o.guard = none) (ty : TypeId) (x y : Operand) (hop : o.op = .store ty x y)
    (b : Nat) (cs vs : List Value) (hb : BoxF w b cs) (hx : a.eval x = .pointer (some ⟨b, 0, none⟩)) (hy : a.eval y = .agg vs.toArray) (hl : cs.length = vs.length) (hi : (P.info? ty).map (·.size) = some vs.length) (h1 : vs.all (·.oneCell') = true)
    (hK : ∀ w', BoxF w' b vs → ChgS (fun k => k = b) w w' → K (a.put o.dst undef) w') : if Region.wanted o (yielded ops a.tmps) = true then Oper.wp P o a w K Q else E := by
  have hw : Region.wanted o (yielded ops a.tmps) = true := by simp [Region.wanted, hg]
  rw [if_pos hw]
  have z := run_storeVar_mid (P := P) w b 0 ty vs.toArray (hb.there (by simp [hl])) (by simpa using hi) (all_oneCell_toArray (by simpa using h1))
  unfold Oper.wp execOp
  simp only [hop, hx, hy, Instr.storeAt, Instr.sureAddr, Sem.run_bind, Sem.run_pure, Result.andThen_ok, z]
  exact hK _ (by simpa using hb.setCells vs hl) (chg_setCells (S := fun k => k = b) b rfl _ 0 w (ChgS.refl _ _))
end
end Go.Own
namespace Go.Proofs.Ytdgmbcmgjadoiaa
set_option maxRecDepth 100000
open Go.RowKit Go.Proofs Go.Own
open Go Go.BigFrame
set_option linter.unusedVariables false
set_option linter.unusedSimpArgs false
def BuildAt (f : Nat) : Prop := ∀ (L : List Twig), L.length = 16 → ∀ (root : Int) (ks : List Int) (n p : Nat) (pi : Int) (v : Value) (w : World), ks.length = n → pi = (p : Int) → n ≤ f → p + n ≤ 16 → Ints w v ks →
  Calls Try.prog 42 #[.agg (encT L root).toArray, v, .int .i64 pi] w fun e w' => e = .returned (.tuple #[.agg (encT (buildT f L ks p) root).toArray, .int .i64 (rootB ks p), .int .i64 (pi + (n : Int))]) ∧ Below w.heap.size w w'
set_option maxHeartbeats 8000000 in
theorem spec_build_step (f : Nat) (ih : ∀ g, g + 1 = f → BuildAt g) : BuildAt f := by
  intro L hL root ks n p pi v w hn hpi hnf hpn hv
  subst hpi
  have hl : (encT L root).length = 65 := tree_len (c := ⟨L, root⟩) hL
  have hone : (encT L root).all (·.oneCell') = true := tree_one ⟨L, root⟩
  have hl2 : (encT L root).toArray.size = 65 := by rw [List.size_toArray, hl]
  have HL := hid hL
  obtain ⟨a, cap, rfl, -, -, -⟩ := Ints.open hv
  obtain ⟨W1, hW1⟩ : ∃ X, (w.alloc (.cells (encT L root).toArray 27)).alloc (.cells #[.bool false, .int .i64 0, .int .i64 0, .int .i64 0, .bool false, .int .i64 0, .int .i64 0, .int .i64 0, .bool false, .int .i64 0, .int .i64 0, .int .i64 0, .bool false, .int .i64 0, .int .i64 0, .int .i64 0, .bool false, .int .i64 0, .int .i64 0, .int .i64 0, .bool false, .int .i64 0, .int .i64 0, .int .i64 0, .bool false, .int .i64 0, .int .i64 0, .int .i64 0, .bool false, .int .i64 0, .int .i64 0, .int .i64 0, .bool false, .int .i64 0, .int .i64 0, .int .i64 0, .bool false, .int .i64 0, .int .i64 0, .int .i64 0, .bool false, .int .i64 0, .int .i64 0, .int .i64 0, .bool false, .int .i64 0, .int .i64 0, .int .i64 0, .bool false, .int .i64 0, .int .i64 0, .int .i64 0, .bool false, .int .i64 0, .int .i64 0, .int .i64 0, .bool false, .int .i64 0, .int .i64 0, .int .i64 0, .bool false, .int .i64 0, .int .i64 0, .int .i64 0, .int .i64 0] 27) = X := ⟨_, rfl⟩
  have hB1 : Below w.heap.size w W1 := by rw [← hW1]; exact ((Below.refl _ _).alloc (Nat.le_refl _) _).alloc (by simp) _
  have HB := hid hB1
  have BX := hid (show BoxF W1 w.heap.size (encT L root) by rw [← hW1]; exact (BoxF.alloc w (encT L root).toArray 27).below ((Below.refl _ _).alloc (Nat.le_refl _) _))
  have RB := hid (show BoxF W1 (w.heap.size + 1) [.bool false, .int .i64 0, .int .i64 0, .int .i64 0, .bool false, .int .i64 0, .int .i64 0, .int .i64 0, .bool false, .int .i64 0, .int .i64 0, .int .i64 0, .bool false, .int .i64 0, .int .i64 0, .int .i64 0, .bool false, .int .i64 0, .int .i64 0, .int .i64 0, .bool false, .int .i64 0, .int .i64 0, .int .i64 0, .bool false, .int .i64 0, .int .i64 0, .int .i64 0, .bool false, .int .i64 0, .int .i64 0, .int .i64 0, .bool false, .int .i64 0, .int .i64 0, .int .i64 0, .bool false, .int .i64 0, .int .i64 0, .int .i64 0, .bool false, .int .i64 0, .int .i64 0, .int .i64 0, .bool false, .int .i64 0, .int .i64 0, .int .i64 0, .bool false, .int .i64 0, .int .i64 0, .int .i64 0, .bool false, .int .i64 0, .int .i64 0, .int .i64 0, .bool false, .int .i64 0, .int .i64 0, .int .i64 0, .bool false, .int .i64 0, .int .i64 0, .int .i64 0, .int .i64 0] by
    rw [← hW1]
    have z := BoxF.alloc (w.alloc (.cells (encT L root).toArray 27)) #[.bool false, .int .i64 0, .int .i64 0, .int .i64 0, .bool false, .int .i64 0, .int .i64 0, .int .i64 0, .bool false, .int .i64 0, .int .i64 0, .int .i64 0, .bool false, .int .i64 0, .int .i64 0, .int .i64 0, .bool false, .int .i64 0, .int .i64 0, .int .i64 0, .bool false, .int .i64 0, .int .i64 0, .int .i64 0, .bool false, .int .i64 0, .int .i64 0, .int .i64 0, .bool false, .int .i64 0, .int .i64 0, .int .i64 0, .bool false, .int .i64 0, .int .i64 0, .int .i64 0, .bool false, .int .i64 0, .int .i64 0, .int .i64 0, .bool false, .int .i64 0, .int .i64 0, .int .i64 0, .bool false, .int .i64 0, .int .i64 0, .int .i64 0, .bool false, .int .i64 0, .int .i64 0, .int .i64 0, .bool false, .int .i64 0, .int .i64 0, .int .i64 0, .bool false, .int .i64 0, .int .i64 0, .int .i64 0, .bool false, .int .i64 0, .int .i64 0, .int .i64 0, .int .i64 0] 27
    rw [show (w.alloc (.cells (encT L root).toArray 27)).heap.size = w.heap.size + 1 by simp] at z
    exact z)
  have hz : ∀ w : World, (zeroValue 27).run Try.prog w = .ok (.agg #[.bool false, .int .i64 0, .int .i64 0, .int .i64 0, .bool false, .int .i64 0, .int .i64 0, .int .i64 0, .bool false, .int .i64 0, .int .i64 0, .int .i64 0, .bool false, .int .i64 0, .int .i64 0, .int .i64 0, .bool false, .int .i64 0, .int .i64 0, .int .i64 0, .bool false, .int .i64 0, .int .i64 0, .int .i64 0, .bool false, .int .i64 0, .int .i64 0, .int .i64 0, .bool false, .int .i64 0, .int .i64 0, .int .i64 0, .bool false, .int .i64 0, .int .i64 0, .int .i64 0, .bool false, .int .i64 0, .int .i64 0, .int .i64 0, .bool false, .int .i64 0, .int .i64 0, .int .i64 0, .bool false, .int .i64 0, .int .i64 0, .int .i64 0, .bool false, .int .i64 0, .int .i64 0, .int .i64 0, .bool false, .int .i64 0, .int .i64 0, .int .i64 0, .bool false, .int .i64 0, .int .i64 0, .int .i64 0, .bool false, .int .i64 0, .int .i64 0, .int .i64 0, .int .i64 0]) w := fun w => zero_run w (by kernel_rfl)
  have HK := hid hv
  have HW1 := hid hW1
  clear hW1 hB1 hv hL
  rw [hn]
  by_cases h0 : n = 0
  · subst h0
    obtain rfl : ks = [] := List.eq_nil_of_length_eq_zero hn
    have HE := hid (buildT_nil f L p)
    go_enter Try.func42, Try.ntmps42
    go_upto_region 1 with fail
    rw [HW1.out]
    go_wp2_with (first | (refine wpList_load_boxg rfl 27 _ rfl w.heap.size (encT L root) (by exact BX.out.1) rfl _ Try.underlying27 rfl (by rw [hl]; kernel_rfl) ?_) | (refine wpList_store_box rfl 27 _ _ rfl (w.heap.size + 1) [.bool false, .int .i64 0, .int .i64 0, .int .i64 0, .bool false, .int .i64 0, .int .i64 0, .int .i64 0, .bool false, .int .i64 0, .int .i64 0, .int .i64 0, .bool false, .int .i64 0, .int .i64 0, .int .i64 0, .bool false, .int .i64 0, .int .i64 0, .int .i64 0, .bool false, .int .i64 0, .int .i64 0, .int .i64 0, .bool false, .int .i64 0, .int .i64 0, .int .i64 0, .bool false, .int .i64 0, .int .i64 0, .int .i64 0, .bool false, .int .i64 0, .int .i64 0, .int .i64 0, .bool false, .int .i64 0, .int .i64 0, .int .i64 0, .bool false, .int .i64 0, .int .i64 0, .int .i64 0, .bool false, .int .i64 0, .int .i64 0, .int .i64 0, .bool false, .int .i64 0, .int .i64 0, .int .i64 0, .bool false, .int .i64 0, .int .i64 0, .int .i64 0, .bool false, .int .i64 0, .int .i64 0, .int .i64 0, .bool false, .int .i64 0, .int .i64 0, .int .i64 0, .int .i64 0] (encT L root) (by exact RB.out) rfl rfl (by rw [hl]; rfl) (by rw [hl]; kernel_rfl) hone ?_))
    intro w9 o9 C9
    have O9 := hid o9
    have HB9 := hid (below_chg HB.out C9 HB.out.size (fun b hb => by omega))
    clear o9 C9
    go_wp2
    exact bodyPost_ret (results_box3 rfl _ _ (w.heap.size + 1) (encT L root) rfl O9.out _ Try.underlying27 rfl (by rw [hl]; kernel_rfl)) rfl ⟨by rw [HE.out]; simp [rootB], HB9.out⟩
  · obtain ⟨g, rfl⟩ : ∃ g, f = g + 1 := by
      cases f with
      | zero => omega
      | succ g => exact ⟨g, rfl⟩
    obtain ⟨m, hm⟩ : ∃ m, n / 2 = m := ⟨_, rfl⟩
    have hmn : m < n := by omega
    have hdv : (n : Int) / 2 = (m : Int) := by omega
    have hn0 : ¬ (n : Int) = 0 := by omega
    have hn16 : (n : Int) ≤ 16 := by omega
    have hm0 : (0 : Int) ≤ (m : Int) := by omega
    have hm16 : (m : Int) ≤ 16 := by omega
    have hwp1 : IntKind.i64.wrap ((p : Int) + 1) = (p : Int) + 1 := by rw [IntKind.wrap_i64]; omega
    have hwm : IntKind.i64.wrap (m : Int) = (m : Int) := by rw [IntKind.wrap_i64]; omega
    have hks : Ints w (.slice a ks.length cap) ks := by first | (rw [hn]; exact HK.out) | exact HK.out
    obtain ⟨bb, off, rfl, hbs, hnc, hcm, hcell⟩ := ints_cell hks (by omega)
    rw [hn] at hnc
    have hmc : (m : Int) ≤ (cap : Int) := by omega
    have HI := hid (ih g rfl)
    have HCE := hid (fun (W : World) (hb : Below w.heap.size w W) => (hb.cell hbs).trans (hcell m (by omega)))
    have HBS := hid hbs
    have HP1 := hid (fun (W : World) (hb : Below w.heap.size w W) => ints_pre (Ints.below hks hb) m (by omega))
    obtain ⟨m1, hm1⟩ : ∃ X, m + 1 = X := ⟨_, rfl⟩
    have hwm1 : IntKind.i64.wrap ((m : Int) + 1) = (m1 : Int) := by rw [IntKind.wrap_i64]; omega
    have HM1 := hid hm1
    have hm10 : (0 : Int) ≤ (m1 : Int) := by omega
    have hm1n : (m1 : Int) ≤ (n : Int) := by omega
    have HP2 := hid (fun (W : World) (hb : Below w.heap.size w W) => ints_post (Ints.below hks hb) m1 (by omega))
    rw [apply_ite some, hn] at HP2
    obtain ⟨a1, ha1⟩ : ∃ X, (if cap = m1 then some ⟨bb, off, none⟩ else some ⟨bb, off + m1, none⟩ : Option Addr) = X := ⟨_, rfl⟩
    rw [ha1] at HP2
    obtain ⟨y, hy⟩ : ∃ X, ks.getD m 0 = X := ⟨_, rfl⟩
    rw [hy] at HCE
    obtain ⟨LA, hLA⟩ : ∃ X, buildT g L (ks.take m) (p+1) = X := ⟨_, rfl⟩
    obtain ⟨C1, hC1⟩ : ∃ X, encT LA root = X := ⟨_, rfl⟩
    obtain ⟨r1, hr1⟩ : ∃ X, rootB (ks.take m) (p+1) = X := ⟨_, rfl⟩
    obtain ⟨LB, hLB⟩ : ∃ X, buildT g LA (ks.drop m1) (p + 1 + m) = X := ⟨_, rfl⟩
    obtain ⟨C2, hC2⟩ : ∃ X, encT LB root = X := ⟨_, rfl⟩
    obtain ⟨r2, hr2⟩ : ∃ X, rootB (ks.drop m1) (p + 1 + m) = X := ⟨_, rfl⟩
    have hLA16 : LA.length = 16 := by rw [← hLA]; exact (buildT_len _ _ _ _).trans HL.out
    have hLB16 : LB.length = 16 := by rw [← hLB]; exact (buildT_len _ _ _ _).trans hLA16
    have hl1 : C1.length = 65 := by rw [← hC1]; exact tree_len (c := ⟨LA, root⟩) hLA16
    have hone1 : C1.all (·.oneCell') = true := by rw [← hC1]; exact tree_one ⟨LA, root⟩
    have hl3 : C2.length = 65 := by rw [← hC2]; exact tree_len (c := ⟨LB, root⟩) hLB16
    have hone3 : C2.all (·.oneCell') = true := by rw [← hC2]; exact tree_one ⟨LB, root⟩
    have HBT := hid (show buildT (g+1) L ks p = LB.set p ⟨true, y, r1, r2⟩ by
      rw [buildT, if_neg (by omega), hn, hm, hm1, hLA, hLB, hr1, hr2, hy])
    have HRT := hid (show rootB ks p = (p : Int) by unfold rootB; rw [if_neg (by omega)])
    have ht1 : (ks.take m).length = m := by simp; omega
    have ht2 : (ks.drop m1).length = n - m1 := by simp; omega
    have HIA := hid (fun (W : World) (hb : Below w.heap.size w W) => HI.out L HL.out root (ks.take m) m (p+1) ((p : Int) + 1) _ W ht1 (by omega) (by omega) (by omega) (HP1.out W hb))
    have HIB := hid (fun (W : World) (hb : Below w.heap.size w W) => HI.out LA hLA16 root (ks.drop m1) (n - m1) (p+1+m) ((p : Int) + 1 + (m : Int)) _ W ht2 (by omega) (by omega) (by omega) (HP2.out W hb))
    rw [hLA, hC1, hr1] at HIA
    rw [hC1, hLB, hC2, hr2] at HIB
    have HC2 := hid hC2
    have HLB16 := hid hLB16
    generalize hE0 : encT L root = C0 at *
    have hSW : ∀ b, b = w.heap.size → b < W1.heap.size := fun b hb => by rw [hb]; exact BX.out.1.1
    clear hks hcell hbs ih hLA hC1 hr1 hLB hC2 hr2 hLA16 hLB16 HI HP1 HP2 ht1 ht2 hE0 hm1 hy
    go_enter Try.func42, Try.ntmps42
    go_upto_region 1 with fail
    rw [HW1.out]
    go_upto_region 4 with fail
    have mk1 : ∀ (P : Program) (o : Oper) (a : Act) (w : World) (v : Value), Oper.plainAt P o a w v = Oper.plainUpon w v ((execOp a.eval o).run P w) := fun _ _ _ _ _ => rfl; have mk2 : ∀ (w w' : World) (v u : Value), Oper.plainUpon w v (.ok (.value u) w') = (w' = w ∧ u = v) := fun _ _ _ _ => rfl
    refine Go.wp_region_chg (fun b => b = w.heap.size) (fun v lo hi w9 => BoxF w9 w.heap.size C1) [Rel.none, Rel.none, Rel.none, Rel.none, Rel.none, Rel.none, Rel.none, Rel.val (.tuple #[.agg C1.toArray, .int .i64 r1, .int .i64 ((p:Int) + 1 + (m : Int))]), Rel.none, Rel.none, Rel.none, Rel.none, Rel.val undef, Rel.none, Rel.none] [[], [], [], [], [], [], [], [], [], [], [], [], [], [], []] [.look, .plain, .plain, .plain, .plain, .plain, .plain, .make, .plain, .plain, .plain, .plain, .change, .plain, .plain] (by kernel_rfl) (by kernel_rfl) (by kernel_rfl) (by kernel_rfl) (by kernel_rfl) hSW (fun v lo hi w9 w' h _ hC => h.chg hC (fun h => h.2 rfl)) ?_
    refine Go.wpR_look rfl rfl (fun K hK => ?_)
    refine ⟨.agg C0.toArray, fun w8 hC => by
      obtain ⟨E, rfl⟩ := hC
      exact plain_load_mid 27 _ rfl w.heap.size 0 rfl C0 _ (BX.out.same (E.old _ rfl) E.h.size).1.range Try.underlying27 rfl (by rw [hl]; kernel_rfl), ?_⟩
    go_simp
    refine hK _ ?_
    clear hK K
    (refine Go.wpR_plain (Go.clsExtS _ _ hSW) rfl rfl (fun K hK => ?_); go_simp; refine hK _ ?_; clear hK K)
    (refine Go.wpR_plain (Go.clsExtS _ _ hSW) rfl rfl (fun K hK => ?_); go_simp; refine hK _ ?_; clear hK K)
    (refine Go.wpR_plain (Go.clsExtS _ _ hSW) rfl rfl (fun K hK => ?_); go_simp; refine hK _ ?_; clear hK K)
    (refine Go.wpR_plain (Go.clsExtS _ _ hSW) rfl rfl (fun K hK => ?_); go_simp; refine hK _ ?_; clear hK K)
    (refine Go.wpR_plain (Go.clsExtS _ _ hSW) rfl rfl (fun K hK => ?_); go_simp; refine hK _ ?_; clear hK K)
    (refine Go.wpR_plain (Go.clsExtS _ _ hSW) rfl rfl (fun K hK => ?_); go_simp; refine hK _ ?_; clear hK K)
    refine Go.wpR_call (Go.clsExtS _ _ hSW) 42 #[.agg C0.toArray, .slice (some ⟨bb, off, none⟩) m cap, .int .i64 ((p : Int) + 1)] (Rel.val (.tuple #[.agg C1.toArray, .int .i64 r1, .int .i64 ((p:Int) + 1 + (m : Int))])) rfl rfl rfl rfl (fun w => by go_simp) (fun w8 hC hD => ?_) ?_
    · obtain ⟨E, rfl⟩ := hC
      refine (HIA.out _ (below_chg HB.out E.h HB.out.size (fun b hb => by omega))).mono ?_
      rintro e w9 ⟨rfl, b9⟩
      exact ⟨_, rfl, b9, rfl, trivial⟩
    rintro _ lo2 hi2 rfl
    (refine Go.wpR_plain (Go.clsExtS _ _ hSW) rfl rfl (fun K hK => ?_); go_simp; refine hK _ ?_; clear hK K)
    (refine Go.wpR_plain (Go.clsExtS _ _ hSW) rfl rfl (fun K hK => ?_); go_simp; refine hK _ ?_; clear hK K)
    (refine Go.wpR_plain (Go.clsExtS _ _ hSW) rfl rfl (fun K hK => ?_); go_simp; refine hK _ ?_; clear hK K)
    (refine Go.wpR_plain (Go.clsExtS _ _ hSW) rfl rfl (fun K hK => ?_); go_simp; refine hK _ ?_; clear hK K)
    refine Go.wpR_put (.agg C1.toArray) (fun v lo hi w9 => BoxF w9 w.heap.size C1) (by rintro w8 w' ⟨E, rfl⟩ hC; exact ⟨⟨w', E.h.trans hC⟩, rfl⟩) rfl rfl rfl rfl (fun v => by first | rfl | (simp [Go.Oper.told]; go_simp)) (fun w8 hC hold => ?_) (fun lo16 hi16 => ?_)
    · obtain ⟨E, rfl⟩ := hC
      exact put_box 27 _ _ rfl w.heap.size C0 C1 (BX.out.same (hold _ rfl) E.h.size) rfl rfl (by rw [hl, hl1]) (by rw [hl1]; kernel_rfl) hone1
    (refine Go.wpR_plain (Go.clsExtS _ _ hSW) rfl rfl (fun K hK => ?_); go_simp; refine hK _ ?_; clear hK K)
    (refine Go.wpR_plain (Go.clsExtS _ _ hSW) rfl rfl (fun K hK => ?_); go_simp; refine hK _ ?_; clear hK K)
    refine Go.wpR_nil ?_
    intro E hm
    have BX2 := hid (show BoxF E.w w.heap.size C1 from (hm.one 12 _ _ _ rfl).1)
    have RB2 := hid (RB.out.chg E.h (by omega))
    have HB2 := hid (below_chg HB.out E.h HB.out.size (fun b hb => by omega))
    obtain ⟨W2, hW2⟩ : ∃ X, E.w = X := ⟨_, rfl⟩
    rw [hW2] at BX2 RB2 HB2 ⊢
    clear hm hW2 E BX RB HB hSW
    have hSW : ∀ b, b = w.heap.size → b < W2.heap.size := fun b hb => by rw [hb]; exact BX2.out.1.1
    go_upto_region 5 with fail
    refine Go.wp_region_chg (fun b => b = w.heap.size) (fun v lo hi w9 => BoxF w9 w.heap.size C2) [Rel.none, Rel.none, Rel.none, Rel.none, Rel.none, Rel.none, Rel.none, Rel.val (.tuple #[.agg C2.toArray, .int .i64 r2, .int .i64 ((p:Int) + 1 + (m : Int) + ((n - m1 : Nat) : Int))]), Rel.none, Rel.none, Rel.none, Rel.none, Rel.val undef, Rel.none, Rel.none] [[], [], [], [], [], [], [], [], [], [], [], [], [], [], []] [.look, .plain, .plain, .plain, .plain, .plain, .plain, .make, .plain, .plain, .plain, .plain, .change, .plain, .plain] (by kernel_rfl) (by kernel_rfl) (by kernel_rfl) (by kernel_rfl) (by kernel_rfl) hSW (fun v lo hi w9 w' h _ hC => h.chg hC (fun h => h.2 rfl)) ?_
    refine Go.wpR_look rfl rfl (fun K hK => ?_)
    refine ⟨.agg C1.toArray, fun w8 hC => by
      obtain ⟨E, rfl⟩ := hC
      exact plain_load_mid 27 _ rfl w.heap.size 0 rfl C1 _ (BX2.out.same (E.old _ rfl) E.h.size).1.range Try.underlying27 rfl (by rw [hl1]; kernel_rfl), ?_⟩
    go_simp
    refine hK _ ?_
    clear hK K
    (refine Go.wpR_plain (Go.clsExtS _ _ hSW) rfl rfl (fun K hK => ?_); go_simp; refine hK _ ?_; clear hK K)
    (refine Go.wpR_plain (Go.clsExtS _ _ hSW) rfl rfl (fun K hK => ?_); go_simp; refine hK _ ?_; clear hK K)
    (refine Go.wpR_plain (Go.clsExtS _ _ hSW) rfl rfl (fun K hK => ?_); go_simp; refine hK _ ?_; clear hK K)
    (refine Go.wpR_plain (Go.clsExtS _ _ hSW) rfl rfl (fun K hK => ?_); go_simp; refine hK _ ?_; clear hK K)
    (refine Go.wpR_plain (Go.clsExtS _ _ hSW) rfl rfl (fun K hK => ?_); go_simp; refine hK _ ?_; clear hK K)
    (refine Go.wpR_plain (Go.clsExtS _ _ hSW) rfl rfl (fun K hK => ?_); go_simp; refine hK _ ?_; clear hK K)
    refine Go.wpR_call (Go.clsExtS _ _ hSW) 42 #[.agg C1.toArray, .slice a1 (n - m1) (cap - m1), .int .i64 ((p : Int) + 1 + (m : Int))] (Rel.val (.tuple #[.agg C2.toArray, .int .i64 r2, .int .i64 ((p:Int) + 1 + (m : Int) + ((n - m1 : Nat) : Int))])) rfl rfl rfl rfl (fun w => by go_simp) (fun w8 hC hD => ?_) ?_
    · obtain ⟨E, rfl⟩ := hC
      refine (HIB.out _ (below_chg HB2.out E.h HB2.out.size (fun b hb => by omega))).mono ?_
      rintro e w9 ⟨rfl, b9⟩
      exact ⟨_, rfl, b9, rfl, trivial⟩
    rintro _ lo2 hi2 rfl
    (refine Go.wpR_plain (Go.clsExtS _ _ hSW) rfl rfl (fun K hK => ?_); go_simp; refine hK _ ?_; clear hK K)
    (refine Go.wpR_plain (Go.clsExtS _ _ hSW) rfl rfl (fun K hK => ?_); go_simp; refine hK _ ?_; clear hK K)
    (refine Go.wpR_plain (Go.clsExtS _ _ hSW) rfl rfl (fun K hK => ?_); go_simp; refine hK _ ?_; clear hK K)
    (refine Go.wpR_plain (Go.clsExtS _ _ hSW) rfl rfl (fun K hK => ?_); go_simp; refine hK _ ?_; clear hK K)
    refine Go.wpR_put (.agg C2.toArray) (fun v lo hi w9 => BoxF w9 w.heap.size C2) (by rintro w8 w' ⟨E, rfl⟩ hC; exact ⟨⟨w', E.h.trans hC⟩, rfl⟩) rfl rfl rfl rfl (fun v => by first | rfl | (simp [Go.Oper.told]; go_simp)) (fun w8 hC hold => ?_) (fun lo16 hi16 => ?_)
    · obtain ⟨E, rfl⟩ := hC
      exact put_box 27 _ _ rfl w.heap.size C1 C2 (BX2.out.same (hold _ rfl) E.h.size) rfl rfl (by rw [hl1, hl3]) (by rw [hl3]; kernel_rfl) hone3
    (refine Go.wpR_plain (Go.clsExtS _ _ hSW) rfl rfl (fun K hK => ?_); go_simp; refine hK _ ?_; clear hK K)
    (refine Go.wpR_plain (Go.clsExtS _ _ hSW) rfl rfl (fun K hK => ?_); go_simp; refine hK _ ?_; clear hK K)
    refine Go.wpR_nil ?_
    intro E hm
    have BX3 := hid (show BoxF E.w w.heap.size C2 from (hm.one 12 _ _ _ rfl).1)
    have RB3 := hid (RB2.out.chg E.h (by omega))
    have HB3 := hid (below_chg HB2.out E.h HB2.out.size (fun b hb => by omega))
    obtain ⟨W3, hW3⟩ : ∃ X, E.w = X := ⟨_, rfl⟩
    rw [hW3] at BX3 RB3 HB3 ⊢
    clear hm hW3 E BX2 RB2 HB2 hSW
    have h00 := HCE.out W3 HB3.out
    have hmn2 : (m : Int) < (n : Int) := by omega
    have hp0 : (0 : Int) ≤ (p : Int) := by omega
    have hp16 : (p : Int) < 16 := by omega
    have hLl := HLB16.out
    have B4 := hid (show BoxF W3 w.heap.size ([] ++ LB.flatMap Twig.enc ++ [.int .i64 root]) by rw [← show encT LB root = [] ++ LB.flatMap Twig.enc ++ [.int .i64 root] from rfl, HC2.out]; exact BX3.out)
    have HpL := hid (show p < LB.length by omega)
    clear BX3 hLl mk1 mk2
    go_upto_region 6 with fail
    go_wp2_with (refine wpList_store_el Twig.enc 4 (fun _ => rfl) rfl 24 _ _ rfl w.heap.size (p * 4) [] [.int .i64 root] LB p ⟨true, y, r1, r2⟩ B4.out (by exact HpL.out) (by simp) rfl rfl (by kernel_rfl) rfl ?_)
    intro w9 o9 C9
    have hl9 : (encT (LB.set p ⟨true, y, r1, r2⟩) root).length = 65 := tree_len (c := ⟨LB.set p ⟨true, y, r1, r2⟩, root⟩) (by show (List.set _ _ _).length = 16; rw [List.length_set]; exact HLB16.out)
    have hone9 : (encT (LB.set p ⟨true, y, r1, r2⟩) root).all (·.oneCell') = true := tree_one ⟨_, root⟩
    have BX9 := hid (show BoxF w9 w.heap.size (encT (LB.set p ⟨true, y, r1, r2⟩) root) from o9)
    have RB9 := hid (RB3.out.chg C9 (by omega))
    have HB9 := hid (below_chg HB3.out C9 HB3.out.size (fun b hb => by omega))
    clear o9 C9 h00 B4
    generalize hE9 : encT (LB.set p ⟨true, y, r1, r2⟩) root = C9 at *
    have HE9 := hid hE9
    clear hE9
    go_wp2_with (first | (refine wpList_load_boxg rfl 27 _ rfl w.heap.size C9 (by exact BX9.out.1) rfl _ Try.underlying27 rfl (by rw [hl9]; kernel_rfl) ?_) | (refine wpList_store_box rfl 27 _ _ rfl (w.heap.size + 1) [.bool false, .int .i64 0, .int .i64 0, .int .i64 0, .bool false, .int .i64 0, .int .i64 0, .int .i64 0, .bool false, .int .i64 0, .int .i64 0, .int .i64 0, .bool false, .int .i64 0, .int .i64 0, .int .i64 0, .bool false, .int .i64 0, .int .i64 0, .int .i64 0, .bool false, .int .i64 0, .int .i64 0, .int .i64 0, .bool false, .int .i64 0, .int .i64 0, .int .i64 0, .bool false, .int .i64 0, .int .i64 0, .int .i64 0, .bool false, .int .i64 0, .int .i64 0, .int .i64 0, .bool false, .int .i64 0, .int .i64 0, .int .i64 0, .bool false, .int .i64 0, .int .i64 0, .int .i64 0, .bool false, .int .i64 0, .int .i64 0, .int .i64 0, .bool false, .int .i64 0, .int .i64 0, .int .i64 0, .bool false, .int .i64 0, .int .i64 0, .int .i64 0, .bool false, .int .i64 0, .int .i64 0, .int .i64 0, .bool false, .int .i64 0, .int .i64 0, .int .i64 0, .int .i64 0] C9 (by exact RB9.out) rfl rfl (by rw [hl9]; rfl) (by rw [hl9]; kernel_rfl) hone9 ?_))
    intro w10 o10 C10
    have O10 := hid o10
    have HB10 := hid (below_chg HB9.out C10 HB9.out.size (fun b hb => by omega))
    clear o10 C10
    go_wp2
    exact bodyPost_ret (results_box3 rfl _ _ (w.heap.size + 1) C9 rfl O10.out _ Try.underlying27 rfl (by rw [hl9]; kernel_rfl)) rfl ⟨by rw [HBT.out, HRT.out, HE9.out, show (p : Int) + (n : Int) = (p : Int) + 1 + (m : Int) + ((n - m1 : Nat) : Int) by have := HM1.out; omega]; rfl, HB10.out⟩
theorem spec_build (f : Nat) : BuildAt f := by
  induction f with
  | zero => exact spec_build_step 0 fun g h => by omega
  | succ f ih => exact spec_build_step (f + 1) fun g h => by obtain rfl : g = f := by omega
                                                             exact ih
end Go.Proofs.Ytdgmbcmgjadoiaa
