/- Chapter 11: NewWorld, in the program. (printed by tools/mk_nw.py) -/
import Derived.Test.YtcafdihekamnkaaF11n
import Derived.Test.YtcafdihekamnkaaWr11
import Derived.Test.YtcafdihekamnkaaM5
import Derived.Test.YtcafdihekamnkaaS11n
import Derived.Test.YtcafdihekamnkaaI10c
import Derived.Test.YtcafdihekamnkaaI7d
import Derived.StillTailTactics
import Derived.Deep.Cut
namespace Go.Proofs.Ytcafdihekamnkaa
set_option maxRecDepth 100000
open Go.RowKit Go.Proofs Go.Own
open Go Go.BigFrame
set_option linter.unusedVariables false
set_option linter.unusedSimpArgs false
theorem one14i (a0 a1 a2 : Option Addr) (n0 c0 n1 c1 n2 c2 : Nat) (TH : ThreadD) : ∀ c ∈ [Value.int .i64 TH.id_, Value.slice a0 n0 c0, Value.int .i64 TH.at_, Value.int .i64 TH.reg0_, Value.int .i64 TH.reg1_, Value.int .i64 TH.reg2_, Value.int .i64 TH.reg3_, Value.slice a1 n1 c1, Value.int .i64 TH.check_, Value.slice a2 n2 c2, Value.int .i64 TH.mine_, Value.int .i64 TH.state_, Value.int .i64 TH.commits_, Value.int .i64 TH.fails_], c.oneCell' = true := by
  intro c hc
  simp only [List.mem_cons, List.not_mem_nil, or_false] at hc
  rcases hc with rfl | rfl | rfl | rfl | rfl | rfl | rfl | rfl | rfl | rfl | rfl | rfl | rfl | rfl <;> rfl
theorem infoThread11i : (Try.prog.info? 55).map (fun i => (i.zero, i.size, i.bytes)) = some (some (.agg #[.int .i64 0, .slice none 0 0, .int .i64 0, .int .i64 0, .int .i64 0, .int .i64 0, .int .i64 0, .slice none 0 0, .int .i64 0, .slice none 0 0, .int .i64 0, .int .i64 0, .int .i64 0, .int .i64 0]), 14, 160) := by kernel_rfl
set_option maxHeartbeats 16000000 in
theorem impl_NewWorld0 (xs : List Int) (ps : List ProgD) (v v2 : Value) (w : World) (h : rdsL w v xs) (h2 : rdsL w v2 ps) (hb : IntSB xs) (hb2 : InstrSSB ps) :
    Calls Try.prog 8 #[v, v2] w fun e w' => ∃ u0 u1 u2 u3 u4 : Value, ∃ S0 S1 S2 S3 S4 : Nat → Prop, e = .returned (.tuple #[.agg #[u0, u1, u2, u3, u4], .bool (newWOk xs ps)]) ∧ ownL S0 w' u0 (newWorld xs ps).first_ ∧ ownL S1 w' u1 (newWorld xs ps).store_.heads_ ∧ ownL S2 w' u2 (newWorld xs ps).store_.descs_ ∧ ownL S3 w' u3 (newWorld xs ps).threads_ ∧ ownL S4 w' u4 (newWorld xs ps).log_ ∧ (∀ k, S0 k → Rg w.heap.size w'.heap.size k) ∧ (∀ k, S1 k → Rg w.heap.size w'.heap.size k) ∧ (∀ k, S2 k → Rg w.heap.size w'.heap.size k) ∧ (∀ k, S3 k → Rg w.heap.size w'.heap.size k) ∧ (∀ k, S4 k → Rg w.heap.size w'.heap.size k) ∧ (∀ k, S0 k → ¬ S1 k) ∧ (∀ k, S0 k → ¬ S2 k) ∧ (∀ k, S0 k → ¬ S3 k) ∧ (∀ k, S0 k → ¬ S4 k) ∧ (∀ k, S1 k → ¬ S2 k) ∧ (∀ k, S1 k → ¬ S3 k) ∧ (∀ k, S1 k → ¬ S4 k) ∧ (∀ k, S2 k → ¬ S3 k) ∧ (∀ k, S2 k → ¬ S4 k) ∧ (∀ k, S3 k → ¬ S4 k) ∧ WorldB (newWorld xs ps) ∧ Below w.heap.size w w' := by
  obtain ⟨j0, hj, hy0, hy1, hy2⟩ := info_parts infoThread11i
  obtain ⟨i0, hi, hz0, hz1, hz2⟩ := info_parts infoInt
  obtain ⟨a0, c0, rfl, hl0, hm0, -⟩ := rdsL_open h
  obtain ⟨a1, c1, rfl, hl1, hm1, hpc⟩ := progCell h2
  have HPC := hid hpc
  have R0 := hid h
  have HBx := hid hb
  have HBp := hid hb2
  have hxl : xs.length ≤ 1048576 := hb
  have hpl : ps.length ≤ 9223372036854775807 := by omega
  clear h h2 hpc hb hb2
  obtain ⟨W1, hW1⟩ : ∃ X, w.alloc (.cells #[Value.slice none 0 0, Value.slice none 0 0, Value.slice none 0 0, Value.slice none 0 0, Value.slice none 0 0] 32) = X := ⟨_, rfl⟩
  have hB1 : Below w.heap.size w W1 := by rw [← hW1]; exact (Below.refl _ _).alloc (Nat.le_refl _) _
  have hN1 : W1.heap.size = w.heap.size + 1 := by rw [← hW1]; simp
  have bR1 : BoxF W1 w.heap.size [Value.slice none 0 0, Value.slice none 0 0, Value.slice none 0 0, Value.slice none 0 0, Value.slice none 0 0] := by rw [← hW1]; exact BoxF.alloc _ _ _
  have HW1 := hid hW1
  clear hW1
  go_enter Try.func8, Try.ntmps8
  go_wp2_with fail
  rw [HW1.out]
  refine (impl_NewStore0 xs _ _ (rdsInts.1 (rdsL.below R0.out hB1)) HBx.out).mono ?_
  rintro e w2 ⟨u0, S0, rfl, oH, rH, b2⟩
  obtain ⟨ha, hn, hc, rfl⟩ := ownL_shape oH
  obtain ⟨V1, hV1⟩ : ∃ X, w2.alloc (.cells #[Value.slice ha hn hc, Value.slice none 0 0] 28) = X := ⟨_, rfl⟩
  have bV : Below w2.heap.size w2 V1 := by rw [← hV1]; exact (Below.refl _ _).alloc (Nat.le_refl _) _
  have hNV : V1.heap.size = w2.heap.size + 1 := by rw [← hV1]; simp
  have bS : Box V1 w2.heap.size [Value.slice ha hn hc, Value.slice none 0 0] := by rw [← hV1]; exact Box.alloc _ _ _
  have hBV : Below w.heap.size w V1 := hB1.trans ((b2.trans (bV.mono b2.size)).mono hB1.size)
  have b1V : Below W1.heap.size W1 V1 := b2.trans (bV.mono b2.size)
  have bt := bR1.below b1V
  have hs2 := b2.size
  have HV1 := hid hV1
  have OH := hid (oH.keep (w' := V1) fun k hk => bV.block k (rH k hk).2)
  have RH := hid rH
  have HBV := hid hBV
  have HBS := hid bS
  clear oH rH bS hBV hV1
  cases hok : newOk xs with
  | false =>
    have Hn := hid (show newWOk xs ps = false by unfold newWOk; rw [hok]; rfl)
    have HT := hid (show newWorld xs ps = ⟨[], ⟨[], []⟩, [], []⟩ by unfold newWorld; rw [Hn.out]; rfl)
    have HB9 := hid (show Below w.heap.size w (w2.alloc (.cells #[Value.slice ha hn hc, Value.slice none 0 0] 28)) by rw [HV1.out]; exact HBV.out)
    replace bt : BoxF (w2.alloc (.cells #[Value.slice ha hn hc, Value.slice none 0 0] 28)) w.heap.size [Value.slice none 0 0, Value.slice none 0 0, Value.slice none 0 0, Value.slice none 0 0, Value.slice none 0 0] := by rw [HV1.out]; exact bt
    go_wp2_with (first | (go_at_call 18; refine (spec_l1In _ _ _ _).mono ?_; rintro e w' ⟨rfl, rfl⟩) | (refine wpList_store_box rfl 32 (.tmp 4) (.tmp 30) rfl w.heap.size _ [Value.slice none 0 0, Value.slice none 0 0, Value.slice none 0 0, Value.slice none 0 0, Value.slice none 0 0] bt rfl rfl rfl (by kernel_rfl) rfl ?_; intro w9 bt9 C9))
    have y0 : w9.cell? ⟨w.heap.size, 0, none⟩ = some (Value.slice none 0 0) := bt9.1.2 0 (by simp)
    have y1 : w9.cell? ⟨w.heap.size, 1, none⟩ = some (Value.slice none 0 0) := bt9.1.2 1 (by simp)
    have y2 : w9.cell? ⟨w.heap.size, 2, none⟩ = some (Value.slice none 0 0) := bt9.1.2 2 (by simp)
    have y3 : w9.cell? ⟨w.heap.size, 3, none⟩ = some (Value.slice none 0 0) := bt9.1.2 3 (by simp)
    have y4 : w9.cell? ⟨w.heap.size, 4, none⟩ = some (Value.slice none 0 0) := bt9.1.2 4 (by simp)
    have HB := hid (below_chg HB9.out C9 HB9.out.size (fun k hk => by rw [hk]; exact Nat.le_refl _))
    simp only [HT.out, Hn.out]
    exact bodyPost_ret (v := .tuple #[.agg #[Value.slice none 0 0, Value.slice none 0 0, Value.slice none 0 0, Value.slice none 0 0, Value.slice none 0 0], .bool false]) (by simp [results, Try.results8, go_sem, y0, y1, y2, y3, y4]) rfl ⟨_, _, _, _, _, fun _ => False, fun _ => False, fun _ => False, fun _ => False, fun _ => False, rfl, ownL_nil _ _, ownL_nil _ _, ownL_nil _ _, ownL_nil _ _, ownL_nil _ _, fun _ h => h.elim, fun _ h => h.elim, fun _ h => h.elim, fun _ h => h.elim, fun _ h => h.elim, fun _ h => h.elim, fun _ h => h.elim, fun _ h => h.elim, fun _ h => h.elim, fun _ h => h.elim, fun _ h => h.elim, fun _ h => h.elim, fun _ h => h.elim, fun _ h => h.elim, fun _ h => h.elim, by unfold WorldB szWorldD szStoreD szD szThreadSD; simp [tSum, eSum], HB.out⟩
  | true =>
  have hx1 : 1 ≤ xs.length := by
    have z := hok
    unfold newOk at z
    simp only [Bool.and_eq_true] at z
    have : 1 ≤ (xs.length : Int) ∧ (xs.length : Int) ≤ 8 := by simpa [inB] using z.1
    omega
  by_cases l1 : (ps.length : Int) < 1
  · have hcn : inB (ps.length : Int) 1 4 = false := decide_eq_false (by omega)
    have Hn := hid (show newWOk xs ps = false by unfold newWOk; rw [hok, hcn]; rfl)
    have HT := hid (show newWorld xs ps = ⟨[], ⟨[], []⟩, [], []⟩ by unfold newWorld; rw [Hn.out]; rfl)
    have HB9 := hid (show Below w.heap.size w (w2.alloc (.cells #[Value.slice ha hn hc, Value.slice none 0 0] 28)) by rw [HV1.out]; exact HBV.out)
    replace bt : BoxF (w2.alloc (.cells #[Value.slice ha hn hc, Value.slice none 0 0] 28)) w.heap.size [Value.slice none 0 0, Value.slice none 0 0, Value.slice none 0 0, Value.slice none 0 0, Value.slice none 0 0] := by rw [HV1.out]; exact bt
    go_wp2_with ((refine wpList_store_box rfl 32 (.tmp 4) (.tmp 30) rfl w.heap.size _ [Value.slice none 0 0, Value.slice none 0 0, Value.slice none 0 0, Value.slice none 0 0, Value.slice none 0 0] bt rfl rfl rfl (by kernel_rfl) rfl ?_; intro w9 bt9 C9))
    have y0 : w9.cell? ⟨w.heap.size, 0, none⟩ = some (Value.slice none 0 0) := bt9.1.2 0 (by simp)
    have y1 : w9.cell? ⟨w.heap.size, 1, none⟩ = some (Value.slice none 0 0) := bt9.1.2 1 (by simp)
    have y2 : w9.cell? ⟨w.heap.size, 2, none⟩ = some (Value.slice none 0 0) := bt9.1.2 2 (by simp)
    have y3 : w9.cell? ⟨w.heap.size, 3, none⟩ = some (Value.slice none 0 0) := bt9.1.2 3 (by simp)
    have y4 : w9.cell? ⟨w.heap.size, 4, none⟩ = some (Value.slice none 0 0) := bt9.1.2 4 (by simp)
    have HB := hid (below_chg HB9.out C9 HB9.out.size (fun k hk => by rw [hk]; exact Nat.le_refl _))
    simp only [HT.out, Hn.out]
    exact bodyPost_ret (v := .tuple #[.agg #[Value.slice none 0 0, Value.slice none 0 0, Value.slice none 0 0, Value.slice none 0 0, Value.slice none 0 0], .bool false]) (by simp [results, Try.results8, go_sem, y0, y1, y2, y3, y4]) rfl ⟨_, _, _, _, _, fun _ => False, fun _ => False, fun _ => False, fun _ => False, fun _ => False, rfl, ownL_nil _ _, ownL_nil _ _, ownL_nil _ _, ownL_nil _ _, ownL_nil _ _, fun _ h => h.elim, fun _ h => h.elim, fun _ h => h.elim, fun _ h => h.elim, fun _ h => h.elim, fun _ h => h.elim, fun _ h => h.elim, fun _ h => h.elim, fun _ h => h.elim, fun _ h => h.elim, fun _ h => h.elim, fun _ h => h.elim, fun _ h => h.elim, fun _ h => h.elim, fun _ h => h.elim, by unfold WorldB szWorldD szStoreD szD szThreadSD; simp [tSum, eSum], HB.out⟩
  by_cases l4 : (4 : Int) < ps.length
  · have hcn : inB (ps.length : Int) 1 4 = false := decide_eq_false (by omega)
    have Hn := hid (show newWOk xs ps = false by unfold newWOk; rw [hok, hcn]; rfl)
    have HT := hid (show newWorld xs ps = ⟨[], ⟨[], []⟩, [], []⟩ by unfold newWorld; rw [Hn.out]; rfl)
    have HB9 := hid (show Below w.heap.size w (w2.alloc (.cells #[Value.slice ha hn hc, Value.slice none 0 0] 28)) by rw [HV1.out]; exact HBV.out)
    replace bt : BoxF (w2.alloc (.cells #[Value.slice ha hn hc, Value.slice none 0 0] 28)) w.heap.size [Value.slice none 0 0, Value.slice none 0 0, Value.slice none 0 0, Value.slice none 0 0, Value.slice none 0 0] := by rw [HV1.out]; exact bt
    go_wp2_with ((refine wpList_store_box rfl 32 (.tmp 4) (.tmp 30) rfl w.heap.size _ [Value.slice none 0 0, Value.slice none 0 0, Value.slice none 0 0, Value.slice none 0 0, Value.slice none 0 0] bt rfl rfl rfl (by kernel_rfl) rfl ?_; intro w9 bt9 C9))
    have y0 : w9.cell? ⟨w.heap.size, 0, none⟩ = some (Value.slice none 0 0) := bt9.1.2 0 (by simp)
    have y1 : w9.cell? ⟨w.heap.size, 1, none⟩ = some (Value.slice none 0 0) := bt9.1.2 1 (by simp)
    have y2 : w9.cell? ⟨w.heap.size, 2, none⟩ = some (Value.slice none 0 0) := bt9.1.2 2 (by simp)
    have y3 : w9.cell? ⟨w.heap.size, 3, none⟩ = some (Value.slice none 0 0) := bt9.1.2 3 (by simp)
    have y4 : w9.cell? ⟨w.heap.size, 4, none⟩ = some (Value.slice none 0 0) := bt9.1.2 4 (by simp)
    have HB := hid (below_chg HB9.out C9 HB9.out.size (fun k hk => by rw [hk]; exact Nat.le_refl _))
    simp only [HT.out, Hn.out]
    exact bodyPost_ret (v := .tuple #[.agg #[Value.slice none 0 0, Value.slice none 0 0, Value.slice none 0 0, Value.slice none 0 0, Value.slice none 0 0], .bool false]) (by simp [results, Try.results8, go_sem, y0, y1, y2, y3, y4]) rfl ⟨_, _, _, _, _, fun _ => False, fun _ => False, fun _ => False, fun _ => False, fun _ => False, rfl, ownL_nil _ _, ownL_nil _ _, ownL_nil _ _, ownL_nil _ _, ownL_nil _ _, fun _ h => h.elim, fun _ h => h.elim, fun _ h => h.elim, fun _ h => h.elim, fun _ h => h.elim, fun _ h => h.elim, fun _ h => h.elim, fun _ h => h.elim, fun _ h => h.elim, fun _ h => h.elim, fun _ h => h.elim, fun _ h => h.elim, fun _ h => h.elim, fun _ h => h.elim, fun _ h => h.elim, by unfold WorldB szWorldD szStoreD szD szThreadSD; simp [tSum, eSum], HB.out⟩
  have hcn : inB (ps.length : Int) 1 4 = true := decide_eq_true (by omega)
  have hpn : ps.length ≤ 4 := by
    have : 1 ≤ (ps.length : Int) ∧ (ps.length : Int) ≤ 4 := by simpa [inB] using hcn
    omega
  have Hw := hid (show newWOk xs ps = (List.range ps.length).all (okAt ps) by unfold newWOk; rw [hok, hcn]; rfl)
  have k0 : V1.cell? ⟨w2.heap.size, 0, none⟩ = some (Value.slice ha hn hc) := HBS.out.2 0 (by simp)
  have k1 : V1.cell? ⟨w2.heap.size, 1, none⟩ = some (Value.slice none 0 0) := HBS.out.2 1 (by simp)
  have X0 := Ext.cell HBS.out.1 k0
  have X1 := Ext.cell HBS.out.1 k1
  clear k0 k1 hok
  have mk1 : ∀ (P : Program) (o : Oper) (a : Act) (w : World) (v : Value), Oper.plainAt P o a w v = Oper.plainUpon w v ((execOp a.eval o).run P w) := fun _ _ _ _ _ => rfl; have mk2 : ∀ (w w' : World) (v u : Value), Oper.plainUpon w v (.ok (.value u) w') = (w' = w ∧ u = v) := fun _ _ _ _ => rfl
  go_upto_region 4 with fail
  rw [HV1.out]
  refine Go.wp_region_rel [Rel.none, Rel.g1 V1.heap.size (fun u => u) xs, Rel.none, Rel.none, Rel.box V1.heap.size 5, Rel.wrote] [[], [], [], [], [], [4]] [.plain, .make, .plain, .plain, .make, .write 4] (by kernel_rfl) (by kernel_rfl) (by kernel_rfl) (by kernel_rfl) (by kernel_rfl) ?_
  (refine Go.wpR_plain (Go.clsExt _) rfl rfl (fun K hK => ?_); go_simp; refine hK _ ?_; clear hK K)
  refine Go.wpR_copy (α := Int) (Go.clsExt _) _ _ 22 rfl i0 (.int .i64 0) 1 8 Try.underlying22 hi hz0 hz1 hz2 rfl (by decide) rfl (Value.slice a0 xs.length c0) xs (by go_simp) (by go_simp) (fun w8 hC => by obtain ⟨E, rfl⟩ := hC; exact rdsL.below (rdsL.below R0.out HBV.out) E.h) (by omega) (fun c hc => by show c.oneCell' = true; have hc2 : c ∈ xs.flatMap encI := hc; simp only [encI_map, List.mem_map] at hc2; obtain ⟨y, _, rfl⟩ := hc2; rfl) (by unfold maxLen; omega) (by omega) rfl rfl rfl rfl (fun fa fm fc lo1 hi1 => ?_)
  (refine Go.wpR_plain (Go.clsExt _) rfl rfl (fun K hK => ?_); go_simp; refine hK _ ?_; clear hK K)
  (refine Go.wpR_plain (Go.clsExt _) rfl rfl (fun K hK => ?_); go_simp; refine hK _ ?_; clear hK K)
  refine Go.wpR_box (Go.clsExt _) 5 #[Value.slice none 0 0, Value.slice none 0 0, Value.slice none 0 0, Value.slice none 0 0, Value.slice none 0 0] 32 rfl rfl rfl rfl rfl (fun w => by go_simp) (fun M => ?_)
  refine Go.wpR_store (Go.clsExt _) 4 5 M _ (.agg #[Value.slice fa fm fc, Value.slice ha hn hc, Value.slice none 0 0, Value.slice none 0 0, Value.slice none 0 0]) [Value.slice fa fm fc, Value.slice ha hn hc, Value.slice none 0 0, Value.slice none 0 0, Value.slice none 0 0] rfl rfl rfl (by decide) rfl (by first | rfl | (simp [Go.Oper.stored]; go_simp)) (fun w h => Go.wrote_r h) (fun w cs0 hn hB => ⟨_, (by obtain ⟨z0, z1, z2, z3, z4, kz0, kz1, kz2, kz3, kz4, fz0, fz1, fz2, fz3, fz4⟩ := box_any5 hn hB; go_simp), boxset5 hn hB _ _ _ _ _⟩) rfl ?_
  refine Go.wpR_nil ?_
  intro E hm
  have bM := (hm.one 5 _ _ _ rfl).1.2 _ rfl
  obtain ⟨⟨hlo1, S9, hS9, u9, SF, e9, oF, hSF⟩, hhi1⟩ := (show (Rel.g1 V1.heap.size (fun u => u) xs).r _ _ _ _ ∧ _ from hm.one 1 _ _ _ rfl)
  subst e9
  have hMlo := (hm.one 4 _ _ _ rfl).1.1
  have htw := hm.two 4 1 _ _ _ _ _ _ (.inl rfl) (.inl rfl) (by decide) rfl rfl
  have hE := E.h
  obtain ⟨W4, hW4⟩ : ∃ X, X = E.w := ⟨_, rfl⟩
  rw [← hW4] at bM oF hE hhi1 ⊢
  have hEs := hE.size
  have hR : ∀ b, SF b → V1.heap.size ≤ b ∧ b < W4.heap.size ∧ b ≠ M := fun b hb => by have := hS9 b (hSF b hb); exact ⟨by have := this.1; omega, by have := this.2; omega, by have h1 := this.1; have h2 := this.2; omega⟩
  have hMl := bM.1.1
  have hB4 := HBV.out.trans (hE.mono HBV.out.size)
  have HR := hid hR
  have OF := hid oF
  have bt4 := bt.below hE
  have OH4 := hid (OH.out.keep (w' := W4) fun k hk => hE.block k (by have := (RH.out k hk).2; omega))
  have BM := hid bM
  have HB4 := hid hB4
  have BT4 := hid bt4
  have hRM : w.heap.size < M := by omega
  clear hW4 hm E X0 X1 mk1 mk2 bM oF hE hS9 hSF htw hhi1 hR bt4 hB4 OH
  have hW4s : w.heap.size ≤ W4.heap.size := HB4.out.size
  go_wp2
  go_loopw [37] (fun i wr => ∃ (k : Nat) (da : Option Addr) (dm dc : Nat) (S : Nat → Prop), k ≤ ps.length ∧ i = .int .i64 k ∧ Hid (BoxF wr M [Value.slice fa fm fc, Value.slice ha hn hc, Value.slice none 0 0, Value.slice da dm dc, Value.slice none 0 0]) ∧ Hid (ownL S wr (Value.slice da dm dc) (newTs ps k)) ∧ Hid (∀ b, S b → W4.heap.size ≤ b ∧ b < wr.heap.size) ∧ Hid (ChgS (fun b => b = M) W4 wr) ∧ Same (((List.range ps.length).drop k).all (okAt ps)) ((List.range ps.length).all (okAt ps))) (fun i _ => ps.length - (intOf i).toNat)
  case atStart => exact ⟨0, _, _, _, fun _ => False, by omega, rfl, BM, hid (ownL_nil _ _), hid (fun _ h => h.elim), hid (ChgS.refl _ _), .rfl⟩
  case round =>
    clear BM
    obtain ⟨k, da, dm, dc, S, hk, rfl, BM, OD, HS, HC, hSm⟩ := hrel
    have hBr := hid (below_chg HB4.out HC.out hW4s (fun b hb => by omega))
    have hCs := HC.out.size
    have btr := BT4.out.chg HC.out (show ¬ (w.heap.size = M) by omega)
    have BTr := hid btr
    by_cases hlt : k < ps.length
    · obtain ⟨bb, off, v0, rfl, hbs, hr0, hcell⟩ := HPC.out k hlt
      have e0 := (hBr.out.cell (p := ⟨bb, off + k, none⟩) hbs).trans hcell
      have hst := hid (all_step (okAt ps) (List.range ps.length) k (by rw [List.length_range]; exact hlt))
      rw [List.getElem_range, okAt_of ps k hlt] at hst
      have hsucc := hid (newTs_succ hlt)
      have hRr := hid (rdsL.below hr0 hBr.out)
      have hIB := hid (instrSSB_at HBp.out k hlt)
      obtain ⟨p0a, p0c, rfl, -, -, -⟩ := rdsL_open hr0
      clear hcell HPC hr0
      go_wp2_with fail
      refine (impl_NewThread0 (k : Int) ps[k].is_ _ _ hRr.out hIB.out).mono ?_
      rintro e w5 ⟨t0, t1, t2, rfl, ⟨T0, T1, T2, p0, p1, p2, g0, g1, g2, d01, d02, d12⟩, b5⟩
      obtain ⟨x0a, x0n, x0c, rfl⟩ := ownL_shape p0
      obtain ⟨x1a, x1n, x1c, rfl⟩ := ownL_shape p1
      obtain ⟨x2a, x2n, x2c, rfl⟩ := ownL_shape p2
      clear e0
      have hokk := hid (show newTOk (k : Int) ps[k].is_ = newTOk (k : Int) ps[k].is_ from rfl)
      obtain ⟨TH, hTH⟩ : ∃ TH, newThread (k : Int) ps[k].is_ = TH := ⟨_, rfl⟩
      obtain ⟨OK, hOK⟩ : ∃ OK, newTOk (k : Int) ps[k].is_ = OK := ⟨_, rfl⟩
      rw [hTH] at p0 p1 p2 hsucc ⊢
      rw [hOK] at hst ⊢
      clear hokk
      obtain ⟨w6, hw6⟩ : ∃ X, w5.alloc (.cells #[.int .i64 TH.id_, Value.slice x0a x0n x0c, .int .i64 TH.at_, .int .i64 TH.reg0_, .int .i64 TH.reg1_, .int .i64 TH.reg2_, .int .i64 TH.reg3_, Value.slice x1a x1n x1c, .int .i64 TH.check_, Value.slice x2a x2n x2c, .int .i64 TH.mine_, .int .i64 TH.state_, .int .i64 TH.commits_, .int .i64 TH.fails_] 55) = X := ⟨_, rfl⟩
      have b56 : Below w5.heap.size w5 w6 := by rw [← hw6]; exact (Below.refl _ _).alloc (Nat.le_refl _) _
      have hN6 : w6.heap.size = w5.heap.size + 1 := by rw [← hw6]; simp
      have bT : Box w6 w5.heap.size [.int .i64 TH.id_, Value.slice x0a x0n x0c, .int .i64 TH.at_, .int .i64 TH.reg0_, .int .i64 TH.reg1_, .int .i64 TH.reg2_, .int .i64 TH.reg3_, Value.slice x1a x1n x1c, .int .i64 TH.check_, Value.slice x2a x2n x2c, .int .i64 TH.mine_, .int .i64 TH.state_, .int .i64 TH.commits_, .int .i64 TH.fails_] := by rw [← hw6]; exact Box.alloc _ _ _
      have b6 : Below wr.heap.size wr w6 := b5.trans (b56.mono b5.size)
      have bt := btr.below b6
      have HW6 := hid hw6
      have HB6 := hid (hBr.out.trans (b6.mono hBr.out.size))
      cases OK with
      | false =>
        have Hn := hid (show newWOk xs ps = false by rw [Hw.out, ← hSm.out, hst.out]; rfl)
        have HT := hid (show newWorld xs ps = ⟨[], ⟨[], []⟩, [], []⟩ by unfold newWorld; rw [Hn.out]; rfl)
        have HB9 := hid (HB6.out)
        skip
        go_wp2_with ((refine wpList_store_box rfl 32 (.tmp 4) (.tmp 50) rfl w.heap.size _ [Value.slice none 0 0, Value.slice none 0 0, Value.slice none 0 0, Value.slice none 0 0, Value.slice none 0 0] bt rfl rfl rfl (by kernel_rfl) rfl ?_; intro w9 bt9 C9))
        have y0 : w9.cell? ⟨w.heap.size, 0, none⟩ = some (Value.slice none 0 0) := bt9.1.2 0 (by simp)
        have y1 : w9.cell? ⟨w.heap.size, 1, none⟩ = some (Value.slice none 0 0) := bt9.1.2 1 (by simp)
        have y2 : w9.cell? ⟨w.heap.size, 2, none⟩ = some (Value.slice none 0 0) := bt9.1.2 2 (by simp)
        have y3 : w9.cell? ⟨w.heap.size, 3, none⟩ = some (Value.slice none 0 0) := bt9.1.2 3 (by simp)
        have y4 : w9.cell? ⟨w.heap.size, 4, none⟩ = some (Value.slice none 0 0) := bt9.1.2 4 (by simp)
        have HB := hid (below_chg HB9.out C9 HB9.out.size (fun k hk => by rw [hk]; exact Nat.le_refl _))
        simp only [HT.out, Hn.out]
        exact bodyPost_ret (v := .tuple #[.agg #[Value.slice none 0 0, Value.slice none 0 0, Value.slice none 0 0, Value.slice none 0 0, Value.slice none 0 0], .bool false]) (by simp [results, Try.results8, go_sem, y0, y1, y2, y3, y4]) rfl ⟨_, _, _, _, _, fun _ => False, fun _ => False, fun _ => False, fun _ => False, fun _ => False, rfl, ownL_nil _ _, ownL_nil _ _, ownL_nil _ _, ownL_nil _ _, ownL_nil _ _, fun _ h => h.elim, fun _ h => h.elim, fun _ h => h.elim, fun _ h => h.elim, fun _ h => h.elim, fun _ h => h.elim, fun _ h => h.elim, fun _ h => h.elim, fun _ h => h.elim, fun _ h => h.elim, fun _ h => h.elim, fun _ h => h.elim, fun _ h => h.elim, fun _ h => h.elim, fun _ h => h.elim, by unfold WorldB szWorldD szStoreD szD szThreadSD; simp [tSum, eSum], HB.out⟩
      | true =>
      have Hn := hid (show Same (((List.range ps.length).drop (k+1)).all (okAt ps)) ((List.range ps.length).all (okAt ps)) from .mk (by rw [← hSm.out, hst.out]; rfl))
      have o5 : encThread.own (Rg wr.heap.size w5.heap.size) w6 [Value.int .i64 TH.id_, Value.slice x0a x0n x0c, Value.int .i64 TH.at_, Value.int .i64 TH.reg0_, Value.int .i64 TH.reg1_, Value.int .i64 TH.reg2_, Value.int .i64 TH.reg3_, Value.slice x1a x1n x1c, Value.int .i64 TH.check_, Value.slice x2a x2n x2c, Value.int .i64 TH.mine_, Value.int .i64 TH.state_, Value.int .i64 TH.commits_, Value.int .i64 TH.fails_] TH := ⟨_, _, _, T0, T1, T2, rfl, p0.keep fun q hq => b56.block q (g0 q hq).2, p1.keep fun q hq => b56.block q (g1 q hq).2, p2.keep fun q hq => b56.block q (g2 q hq).2, g0, g1, g2, d01, d02, d12⟩
      obtain ⟨hdm, css, hown, hfl, hfin⟩ := append_box (A := encThread) OD.out (fun b hb => ⟨(HS.out b hb).2, by have := (HS.out b hb).1; omega⟩) BM.out (show 3 < 5 by omega) b6 o5 (fun b hb => ⟨hb.1, by have := hb.2; omega⟩)
      have hdk : dm ≤ 4 := by rw [hdm, newTs_len]; omega
      clear hdm
      have hone := one14i x0a x1a x2a x0n x0c x1n x1c x2n x2c TH
      have BM6 := BM.out.below b6
      have m3 : w6.cell? ⟨M, 3, none⟩ = some (Value.slice da dm dc) := BM6.1.2 3 (by simp)
      have y0 : w6.cell? ⟨w5.heap.size, 0, none⟩ = some (.int .i64 TH.id_) := bT.2 0 (by simp)
      have y1 : w6.cell? ⟨w5.heap.size, 1, none⟩ = some (Value.slice x0a x0n x0c) := bT.2 1 (by simp)
      have y2 : w6.cell? ⟨w5.heap.size, 2, none⟩ = some (.int .i64 TH.at_) := bT.2 2 (by simp)
      have y3 : w6.cell? ⟨w5.heap.size, 3, none⟩ = some (.int .i64 TH.reg0_) := bT.2 3 (by simp)
      have y4 : w6.cell? ⟨w5.heap.size, 4, none⟩ = some (.int .i64 TH.reg1_) := bT.2 4 (by simp)
      have y5 : w6.cell? ⟨w5.heap.size, 5, none⟩ = some (.int .i64 TH.reg2_) := bT.2 5 (by simp)
      have y6 : w6.cell? ⟨w5.heap.size, 6, none⟩ = some (.int .i64 TH.reg3_) := bT.2 6 (by simp)
      have y7 : w6.cell? ⟨w5.heap.size, 7, none⟩ = some (Value.slice x1a x1n x1c) := bT.2 7 (by simp)
      have y8 : w6.cell? ⟨w5.heap.size, 8, none⟩ = some (.int .i64 TH.check_) := bT.2 8 (by simp)
      have y9 : w6.cell? ⟨w5.heap.size, 9, none⟩ = some (Value.slice x2a x2n x2c) := bT.2 9 (by simp)
      have y10 : w6.cell? ⟨w5.heap.size, 10, none⟩ = some (.int .i64 TH.mine_) := bT.2 10 (by simp)
      have y11 : w6.cell? ⟨w5.heap.size, 11, none⟩ = some (.int .i64 TH.state_) := bT.2 11 (by simp)
      have y12 : w6.cell? ⟨w5.heap.size, 12, none⟩ = some (.int .i64 TH.commits_) := bT.2 12 (by simp)
      have y13 : w6.cell? ⟨w5.heap.size, 13, none⟩ = some (.int .i64 TH.fails_) := bT.2 13 (by simp)
      clear hst hSm p0 p1 p2 o5 bt BM6 bT hN6
      go_wp2_with (at_builtin; refine wpList_append_at rfl _ _ 29 rfl 0 55 j0 (.agg #[.int .i64 0, .slice none 0 0, .int .i64 0, .int .i64 0, .int .i64 0, .int .i64 0, .int .i64 0, .slice none 0 0, .int .i64 0, .slice none 0 0, .int .i64 0, .int .i64 0, .int .i64 0, .int .i64 0]) 14 160 Try.underlying29 hj hy0 hy1 hy2 rfl (by decide) (Value.slice da dm dc) dm css.flatten rfl hown _ 1 [Value.int .i64 TH.id_, Value.slice x0a x0n x0c, Value.int .i64 TH.at_, Value.int .i64 TH.reg0_, Value.int .i64 TH.reg1_, Value.int .i64 TH.reg2_, Value.int .i64 TH.reg3_, Value.slice x1a x1n x1c, Value.int .i64 TH.check_, Value.slice x2a x2n x2c, Value.int .i64 TH.mine_, Value.int .i64 TH.state_, Value.int .i64 TH.commits_, Value.int .i64 TH.fails_] rfl hfl (by decide) hone (by unfold maxLen; omega) (by omega) (Nat.zero_le _) ?_)
      intro v8 w8 o8 g8 p8
      obtain ⟨ya, yc, rfl, BM8, BM9, OD9, C9, C8, hs9, hs8⟩ := hfin v8 w8 o8 g8 (fun q hq => (p8 q hq).imp id (fun e => by rw [e]; simp))
      have n3 : w8.cell? ⟨M, 3, none⟩ = some (Value.slice da dm dc) := BM8.1.2 3 (by simp)
      have n4 : w8.frozen? ⟨M, 3, none⟩ = false := BM8.2 3 (by simp)
      obtain ⟨W9, hW9⟩ : ∃ X, w8.setCell ⟨M, 3, none⟩ (Value.slice ya (dm + 1) yc) = X := ⟨_, rfl⟩
      rw [hW9] at BM9 OD9 C9 hs9
      have HW9 := hid hW9
      have BM10 := hid BM9
      have OD10 := hid (show ownL _ W9 _ (newTs ps (k+1)) by rw [hsucc.out]; exact OD9)
      have HC10 := hid (show ChgS (fun b => b = M) W4 W9 from ⟨C9.os.trans HC.out.os, C9.tape.trans HC.out.tape, C9.output.trans HC.out.output, by have := HC.out.size; have := C9.size; omega, fun b hb hn => (C9.block b (by omega) (fun h => h.elim hn (fun h => by have := (HS.out b h).1; omega))).trans (HC.out.block b hb hn)⟩)
      have HS10 := hid (show ∀ b, (S b ∨ (wr.heap.size ≤ b ∧ b < w8.heap.size)) → W4.heap.size ≤ b ∧ b < W9.heap.size from fun b hb => hb.elim (fun h => ⟨(HS.out b h).1, by have := (HS.out b h).2; omega⟩) (fun h => ⟨by have := h.1; omega, by have := h.2; omega⟩))
      clear hW9 hone m3 y0 y1 y2 y3 y4 y5 y6 y7 y8 y9 y10 y11 y12 y13 BM8 C8 BM9 OD9 C9 hfin hown hfl o8 g8 p8
      go_wp2
      rw [HW9.out]
      go_roundw
      case rel => exact ⟨k+1, ya, dm + 1, yc, _, by omega, by go_num, BM10, OD10, HS10, HC10, Hn.out⟩
      case measure => simp [intOf]; omega
    · obtain rfl : k = ps.length := by omega
      have Hn := hid (show newWOk xs ps = true by rw [Hw.out, ← hSm.out, List.drop_eq_nil_of_le (by rw [List.length_range]; omega)]; rfl)
      have HT := hid (show newWorld xs ps = ⟨xs, ⟨newH xs, []⟩, newTs ps ps.length, []⟩ by unfold newWorld; rw [Hn.out]; rfl)
      have HWB := hid (newWorld_B HBx.out HBp.out)
      have y0 : wr.cell? ⟨M, 0, none⟩ = some (Value.slice fa fm fc) := BM.out.1.2 0 (by simp)
      have y1 : wr.cell? ⟨M, 1, none⟩ = some (Value.slice ha hn hc) := BM.out.1.2 1 (by simp)
      have y2 : wr.cell? ⟨M, 2, none⟩ = some (Value.slice none 0 0) := BM.out.1.2 2 (by simp)
      have y3 : wr.cell? ⟨M, 3, none⟩ = some (Value.slice da dm dc) := BM.out.1.2 3 (by simp)
      have y4 : wr.cell? ⟨M, 4, none⟩ = some (Value.slice none 0 0) := BM.out.1.2 4 (by simp)
      have OFr := hid (OF.out.chg HC.out (fun b hb => ⟨(HR.out b hb).2.1, (HR.out b hb).2.2⟩))
      have OHr := hid (OH4.out.chg HC.out (fun b hb => ⟨by have := (RH.out b hb).2; omega, by have := (RH.out b hb).2; omega⟩))
      clear hSm
      go_wp2_with (refine wpList_store_box rfl 32 (.tmp 4) (.tmp 58) rfl w.heap.size _ [Value.slice fa fm fc, Value.slice ha hn hc, Value.slice none 0 0, Value.slice da dm dc, Value.slice none 0 0] btr rfl rfl rfl (by kernel_rfl) rfl ?_; intro w9 bt9 C9)
      have z0 : w9.cell? ⟨w.heap.size, 0, none⟩ = some (Value.slice fa fm fc) := bt9.1.2 0 (by simp)
      have z1 : w9.cell? ⟨w.heap.size, 1, none⟩ = some (Value.slice ha hn hc) := bt9.1.2 1 (by simp)
      have z2 : w9.cell? ⟨w.heap.size, 2, none⟩ = some (Value.slice none 0 0) := bt9.1.2 2 (by simp)
      have z3 : w9.cell? ⟨w.heap.size, 3, none⟩ = some (Value.slice da dm dc) := bt9.1.2 3 (by simp)
      have z4 : w9.cell? ⟨w.heap.size, 4, none⟩ = some (Value.slice none 0 0) := bt9.1.2 4 (by simp)
      have HB := hid (below_chg hBr.out C9 hBr.out.size (fun k hk => by rw [hk]; exact Nat.le_refl _))
      have h9s := C9.size
      rw [HT.out] at HWB
      simp only [HT.out, Hn.out]
      refine bodyPost_ret (v := .tuple #[.agg #[Value.slice fa fm fc, Value.slice ha hn hc, Value.slice none 0 0, Value.slice da dm dc, Value.slice none 0 0], .bool true]) (by simp [results, Try.results8, go_sem, z0, z1, z2, z3, z4]) rfl ⟨_, _, _, _, _, SF, S0, fun _ => False, S, fun _ => False, rfl, OFr.out.chg C9 ?_, OHr.out.chg C9 ?_, ownL_nil _ _, OD.out.chg C9 ?_, ownL_nil _ _, ?_, ?_, fun _ h => h.elim, ?_, fun _ h => h.elim, ?_, fun _ _ h => h, ?_, fun _ _ h => h, fun _ _ h => h, ?_, fun _ _ h => h, fun _ h => h.elim, fun _ h => h.elim, fun _ _ h => h, HWB.out, HB.out⟩
      · exact fun b hb => ⟨by have := (HR.out b hb).2.1; omega, by have := (HR.out b hb).1; omega⟩
      · exact fun b hb => ⟨by have := (RH.out b hb).2; omega, by have := (RH.out b hb).1; omega⟩
      · exact fun b hb => ⟨(HS.out b hb).2, by have := (HS.out b hb).1; omega⟩
      · exact fun b hb => ⟨by have := (HR.out b hb).1; omega, by have := (HR.out b hb).2.1; omega⟩
      · exact fun b hb => ⟨by have := (RH.out b hb).1; omega, by have := (RH.out b hb).2; omega⟩
      · exact fun b hb => ⟨by have := (HS.out b hb).1; omega, by have := (HS.out b hb).2; omega⟩
      · exact fun b hb h2 => by have := (HR.out b hb).1; have := (RH.out b h2).2; omega
      · exact fun b hb h2 => by have := (HR.out b hb).2.1; have := (HS.out b h2).1; omega
      · exact fun b hb h2 => by have := (RH.out b hb).2; have := (HS.out b h2).1; omega
end Go.Proofs.Ytcafdihekamnkaa
