/- FnExactRingMove, walked. (printed by tools/mk_l14m.py) -/
import Derived.Test.YtilbmclhnlkkmaaI14m
import Derived.Test.YtilbmclhnlkkmaaS14m
import Derived.Test.YtilbmclhnlkkmaaC14b
import Derived.Test.YtilbmclhnlkkmaaLn14
import Derived.Test.YtilbmclhnlkkmaaWr3
import Derived.Test.YtilbmclhnlkkmaaOv3
import Derived.Deep.Cut
namespace Go.Proofs.Ytilbmclhnlkkmaa
set_option maxRecDepth 100000
open Go.RowKit Go.Proofs Go.Own
set_option linter.unusedVariables false
set_option linter.unusedSimpArgs false
theorem put_all {P : Program} {o : Oper} {a : Act} {w : World} (ty : TypeId) (x y : Operand) (ho : o.op = .store ty x y) (b : Nat) (cs vs : List Value) (hb : BoxF w b cs) (hx : a.eval x = .pointer (some ⟨b, 0, none⟩)) (hy : a.eval y = .agg vs.toArray) (hl : cs.length = vs.length)
    (hi : (P.info? ty).map (·.size) = some vs.length) (h1 : vs.all (·.oneCell') = true) : ∃ w', (execOp a.eval o).run P w = .ok .skip w' ∧ BoxF w' b vs ∧ ChgS (fun k => k = b) w w' ∧ w'.heap.size = w.heap.size := by
  refine ⟨w.setCells b 0 vs, ?_, by simpa using hb.setCells vs hl, chg_setCells (S := fun k => k = b) b rfl _ 0 w (ChgS.refl _ _), size_setCells b _ _ _⟩
  unfold execOp
  have z := run_storeVar_mid (P := P) w b 0 ty vs.toArray (hb.there (by simp [hl])) (by simpa using hi) (all_oneCell_toArray (by simpa using h1))
  simp only [ho, hx, hy, Instr.storeAt, Instr.sureAddr, Sem.run_bind, Sem.run_pure, Result.andThen_ok, z]
set_option maxRecDepth 100000 in
set_option maxHeartbeats 8000000 in
theorem law_RingMove (c d : RingD) (hc : c.cells_.length = 8) (hd : d.cells_.length = 8) (n : Int) (w : World) :
    Calls Try.prog 7 #[.agg c.enc.toArray, .agg d.enc.toArray, .int .i64 n] w fun e w' => e = .returned (.bool true) ∧ Below w.heap.size w w' := by
  have hla := ring_len hc
  have hlb := ring_len hd
  have hla2 : c.enc.toArray.size = 10 := by rw [List.size_toArray, hla]
  have hlb2 : d.enc.toArray.size = 10 := by rw [List.size_toArray, hlb]
  have HTA := hid (fun (W : World) => toRing_c c hc W)
  have HTB := hid (fun (W : World) => toRing_c d hd W)
  have HS := hid (fun (W : World) => spec_RingMove0 c d hc hd n W)
  have HI := hid (fun (W : World) => impl_RingMove0 c d hc hd n W)
  have hlr := moveC_len c d hc hd n
  obtain ⟨r, hr⟩ : ∃ r, moveC c d n = r := ⟨_, rfl⟩
  rw [hr] at HS HI hlr
  obtain ⟨ra, rb, n2⟩ := r
  dsimp only at HS HI hlr
  have hlfa := ring_len hlr.1
  have hlfb := ring_len hlr.2
  have honefa := ring_one ra
  have honefb := ring_one rb
  have HQA := hid (fun (W : World) => eqRing_c ra hlr.1 W)
  have HQB := hid (fun (W : World) => eqRing_c rb hlr.2 W)
  obtain ⟨ca, hca⟩ : ∃ X, c.enc = X := ⟨_, rfl⟩
  obtain ⟨cb, hcb⟩ : ∃ X, d.enc = X := ⟨_, rfl⟩
  obtain ⟨fa, hfa⟩ : ∃ X, ra.enc = X := ⟨_, rfl⟩
  obtain ⟨fb, hfb⟩ : ∃ X, rb.enc = X := ⟨_, rfl⟩
  rw [hca] at hla hla2 HTA HS HI ⊢
  rw [hcb] at hlb hlb2 HTB HS HI ⊢
  rw [hfa] at HS HI hlfa honefa HQA
  rw [hfb] at HS HI hlfb honefb HQB
  clear hca hcb hfa hfb hr hc hd hlr
  have hfa2 : fa.toArray.size = 10 := by rw [List.size_toArray, hlfa]
  have hfb2 : fb.toArray.size = 10 := by rw [List.size_toArray, hlfb]
  obtain ⟨W1, hW1⟩ : ∃ X, (w.alloc (.cells ca.toArray 24)).alloc (.cells cb.toArray 24) = X := ⟨_, rfl⟩
  have HB1 := hid (show Below w.heap.size w W1 by rw [← hW1]; exact ((Below.refl _ _).alloc (Nat.le_refl _) _).alloc (by simp) _)
  have BA1 := hid (show BoxF W1 w.heap.size ca by rw [← hW1]; exact (BoxF.alloc w ca.toArray 24).below ((Below.refl _ _).alloc (Nat.le_refl _) _))
  have BB1 : Hid (BoxF W1 (w.heap.size + 1) cb) := by
    rw [← hW1]
    have z := BoxF.alloc (w.alloc (.cells ca.toArray 24)) cb.toArray 24
    rw [show (w.alloc (.cells ca.toArray 24)).heap.size = w.heap.size + 1 by simp] at z
    exact hid z
  have hz : ∀ w : World, (zeroValue 26).run Try.prog w = .ok (.agg #[.int .i64 0, .int .i64 0, .int .i64 0, .int .i64 0, .int .i64 0, .int .i64 0, .int .i64 0, .int .i64 0, .int .i64 0, .int .i64 0]) w := fun w => zero_run w (by kernel_rfl)
  have HW1 := hid hW1
  clear hW1
  go_enter Try.func7, Try.ntmps7
  go_upto_region 1 with fail
  rw [HW1.out]
  have mk1 : ∀ (P : Program) (o : Oper) (a : Act) (w : World) (v : Value), Oper.plainAt P o a w v = Oper.plainUpon w v ((execOp a.eval o).run P w) := fun _ _ _ _ _ => rfl
  have mk2 : ∀ (w w' : World) (v u : Value), Oper.plainUpon w v (.ok (.value u) w') = (w' = w ∧ u = v) := fun _ _ _ _ => rfl
  refine Go.wp_region_rel [Go.Rel.none, Go.Rel.val (.agg ca.toArray), Go.Rel.none, Go.Rel.val (.agg cb.toArray), Go.Rel.none, Go.Rel.val (.tuple #[.agg fa.toArray, .agg fb.toArray, .int .i64 n2]), Go.Rel.none, Go.Rel.none, Go.Rel.none, Go.Rel.none, Go.Rel.box W1.heap.size 10, Go.Rel.box W1.heap.size 10, Go.Rel.wrote, Go.Rel.wrote, Go.Rel.none] [[], [], [], [], [], [], [], [], [], [], [], [], [10], [11], []] [.plain, .make, .plain, .make, .plain, .make, .plain, .plain, .plain, .plain, .make, .make, .write 10, .write 11, .plain] (by kernel_rfl) (by kernel_rfl) (by kernel_rfl) (by kernel_rfl) (by kernel_rfl) ?_
  refine Go.wpR_plain (Go.clsExt _) rfl rfl (fun K hK => ?_)
  refine ⟨.agg ca.toArray, fun w8 hC => by
    obtain ⟨E, rfl⟩ := hC
    exact plain_load_mid 24 _ rfl (w.heap.size) 0 rfl ca _ (BA1.out.below E.h).1.range Try.underlying24 rfl (by rw [hla]; kernel_rfl), ?_⟩
  go_simp
  refine hK _ ?_
  clear hK K
  refine Go.wpR_call (Go.clsExt _) 10 #[.agg ca.toArray] (Go.Rel.val (.agg ca.toArray)) rfl rfl rfl rfl (fun w => by go_simp) (fun w9 hC hE => ?_) ?_
  · obtain ⟨E, rfl⟩ := hC; refine (HTA.out _).mono ?_; rintro e w2 ⟨rfl, b⟩; exact ⟨_, rfl, b, rfl, trivial⟩
  rintro _ lo1 hi1 rfl
  refine Go.wpR_plain (Go.clsExt _) rfl rfl (fun K hK => ?_)
  refine ⟨.agg cb.toArray, fun w8 hC => by
    obtain ⟨E, rfl⟩ := hC
    exact plain_load_mid 24 _ rfl (w.heap.size + 1) 0 rfl cb _ (BB1.out.below E.h).1.range Try.underlying24 rfl (by rw [hlb]; kernel_rfl), ?_⟩
  go_simp
  refine hK _ ?_
  clear hK K
  refine Go.wpR_call (Go.clsExt _) 10 #[.agg cb.toArray] (Go.Rel.val (.agg cb.toArray)) rfl rfl rfl rfl (fun w => by go_simp) (fun w9 hC hE => ?_) ?_
  · obtain ⟨E, rfl⟩ := hC; refine (HTB.out _).mono ?_; rintro e w2 ⟨rfl, b⟩; exact ⟨_, rfl, b, rfl, trivial⟩
  rintro _ lo3 hi3 rfl
  (refine Go.wpR_plain (Go.clsExt _) rfl rfl (fun K hK => ?_); go_simp; refine hK _ ?_; clear hK K)
  refine Go.wpR_call (Go.clsExt _) 22 #[.agg ca.toArray, .agg cb.toArray, .int .i64 n] (Go.Rel.val (.tuple #[.agg fa.toArray, .agg fb.toArray, .int .i64 n2])) rfl rfl rfl rfl (fun w => by go_simp) (fun w9 hC hE => ?_) ?_
  · obtain ⟨E, rfl⟩ := hC; refine (HS.out _).mono ?_; rintro e w2 ⟨rfl, b⟩; exact ⟨_, rfl, b, rfl, trivial⟩
  rintro _ lo5 hi5 rfl
  (refine Go.wpR_plain (Go.clsExt _) rfl rfl (fun K hK => ?_); go_simp; refine hK _ ?_; clear hK K)
  (refine Go.wpR_plain (Go.clsExt _) rfl rfl (fun K hK => ?_); go_simp; refine hK _ ?_; clear hK K)
  (refine Go.wpR_plain (Go.clsExt _) rfl rfl (fun K hK => ?_); go_simp; refine hK _ ?_; clear hK K)
  (refine Go.wpR_plain (Go.clsExt _) rfl rfl (fun K hK => ?_); go_simp; refine hK _ ?_; clear hK K)
  refine Go.wpR_box (Go.clsExt _) 10 #[.int .i64 0, .int .i64 0, .int .i64 0, .int .i64 0, .int .i64 0, .int .i64 0, .int .i64 0, .int .i64 0, .int .i64 0, .int .i64 0] 26 rfl rfl rfl rfl rfl (fun w => by go_simp) (fun lo10 => ?_)
  refine Go.wpR_box (Go.clsExt _) 10 #[.int .i64 0, .int .i64 0, .int .i64 0, .int .i64 0, .int .i64 0, .int .i64 0, .int .i64 0, .int .i64 0, .int .i64 0, .int .i64 0] 26 rfl rfl rfl rfl rfl (fun w => by go_simp) (fun lo11 => ?_)
  refine Go.wpR_store (Go.clsExt _) 10 10 lo10 _ (.agg fa.toArray) fa rfl rfl rfl (by decide) rfl (by first | rfl | (simp [Go.Oper.stored]; go_simp)) (fun w h => Go.wrote_r h) (fun w cs0 hn hB => put_all 26 _ _ rfl lo10 cs0 fa hB rfl rfl (by rw [hn, hlfa]) (by rw [hlfa]; kernel_rfl) honefa) hlfa ?_
  refine Go.wpR_store (Go.clsExt _) 11 10 lo11 _ (.agg fb.toArray) fb rfl rfl rfl (by decide) rfl (by first | rfl | (simp [Go.Oper.stored]; go_simp)) (fun w h => Go.wrote_r h) (fun w cs0 hn hB => put_all 26 _ _ rfl lo11 cs0 fb hB rfl rfl (by rw [hn, hlfb]) (by rw [hlfb]; kernel_rfl) honefb) hlfb ?_
  (refine Go.wpR_plain (Go.clsExt _) rfl rfl (fun K hK => ?_); go_simp; refine hK _ ?_; clear hK K)
  refine Go.wpR_nil ?_
  intro E hm
  clear mk1 mk2
  have RSA := hid ((hm.one 12 _ _ _ rfl).1.2 _ rfl)
  have RSB := hid ((hm.one 13 _ _ _ rfl).1.2 _ rfl)
  have BA2 := hid (BA1.out.below E.h)
  have BB2 := hid (BB1.out.below E.h)
  have HB2 := hid (HB1.out.trans (E.h.mono HB1.out.size))
  obtain ⟨W2, hW2⟩ : ∃ X, X = E.w := ⟨_, rfl⟩
  rw [← hW2] at RSA RSB BA2 BB2 HB2 ⊢
  clear hm hW2 E BA1 BB1 HB1 HW1
  go_upto_region 2 with fail
  have mk1 : ∀ (P : Program) (o : Oper) (a : Act) (w : World) (v : Value), Oper.plainAt P o a w v = Oper.plainUpon w v ((execOp a.eval o).run P w) := fun _ _ _ _ _ => rfl
  have mk2 : ∀ (w w' : World) (v u : Value), Oper.plainUpon w v (.ok (.value u) w') = (w' = w ∧ u = v) := fun _ _ _ _ => rfl
  refine Go.wp_region_rel [Go.Rel.none, Go.Rel.val (.agg ca.toArray), Go.Rel.none, Go.Rel.val (.agg cb.toArray), Go.Rel.none, Go.Rel.val (.tuple #[.agg fa.toArray, .agg fb.toArray, .int .i64 n2]), Go.Rel.none, Go.Rel.none, Go.Rel.none, Go.Rel.none, Go.Rel.box W2.heap.size 10, Go.Rel.box W2.heap.size 10, Go.Rel.wrote, Go.Rel.wrote, Go.Rel.none] [[], [], [], [], [], [], [], [], [], [], [], [], [10], [11], []] [.plain, .make, .plain, .make, .plain, .make, .plain, .plain, .plain, .plain, .make, .make, .write 10, .write 11, .plain] (by kernel_rfl) (by kernel_rfl) (by kernel_rfl) (by kernel_rfl) (by kernel_rfl) ?_
  refine Go.wpR_plain (Go.clsExt _) rfl rfl (fun K hK => ?_)
  refine ⟨.agg ca.toArray, fun w8 hC => by
    obtain ⟨E, rfl⟩ := hC
    exact plain_load_mid 24 _ rfl (w.heap.size) 0 rfl ca _ (BA2.out.below E.h).1.range Try.underlying24 rfl (by rw [hla]; kernel_rfl), ?_⟩
  go_simp
  refine hK _ ?_
  clear hK K
  refine Go.wpR_call (Go.clsExt _) 10 #[.agg ca.toArray] (Go.Rel.val (.agg ca.toArray)) rfl rfl rfl rfl (fun w => by go_simp) (fun w9 hC hE => ?_) ?_
  · obtain ⟨E, rfl⟩ := hC; refine (HTA.out _).mono ?_; rintro e w2 ⟨rfl, b⟩; exact ⟨_, rfl, b, rfl, trivial⟩
  rintro _ lo1 hi1 rfl
  refine Go.wpR_plain (Go.clsExt _) rfl rfl (fun K hK => ?_)
  refine ⟨.agg cb.toArray, fun w8 hC => by
    obtain ⟨E, rfl⟩ := hC
    exact plain_load_mid 24 _ rfl (w.heap.size + 1) 0 rfl cb _ (BB2.out.below E.h).1.range Try.underlying24 rfl (by rw [hlb]; kernel_rfl), ?_⟩
  go_simp
  refine hK _ ?_
  clear hK K
  refine Go.wpR_call (Go.clsExt _) 10 #[.agg cb.toArray] (Go.Rel.val (.agg cb.toArray)) rfl rfl rfl rfl (fun w => by go_simp) (fun w9 hC hE => ?_) ?_
  · obtain ⟨E, rfl⟩ := hC; refine (HTB.out _).mono ?_; rintro e w2 ⟨rfl, b⟩; exact ⟨_, rfl, b, rfl, trivial⟩
  rintro _ lo3 hi3 rfl
  (refine Go.wpR_plain (Go.clsExt _) rfl rfl (fun K hK => ?_); go_simp; refine hK _ ?_; clear hK K)
  refine Go.wpR_call (Go.clsExt _) 23 #[.agg ca.toArray, .agg cb.toArray, .int .i64 n] (Go.Rel.val (.tuple #[.agg fa.toArray, .agg fb.toArray, .int .i64 n2])) rfl rfl rfl rfl (fun w => by go_simp) (fun w9 hC hE => ?_) ?_
  · obtain ⟨E, rfl⟩ := hC; refine (HI.out _).mono ?_; rintro e w2 ⟨rfl, b⟩; exact ⟨_, rfl, b, rfl, trivial⟩
  rintro _ lo5 hi5 rfl
  (refine Go.wpR_plain (Go.clsExt _) rfl rfl (fun K hK => ?_); go_simp; refine hK _ ?_; clear hK K)
  (refine Go.wpR_plain (Go.clsExt _) rfl rfl (fun K hK => ?_); go_simp; refine hK _ ?_; clear hK K)
  (refine Go.wpR_plain (Go.clsExt _) rfl rfl (fun K hK => ?_); go_simp; refine hK _ ?_; clear hK K)
  (refine Go.wpR_plain (Go.clsExt _) rfl rfl (fun K hK => ?_); go_simp; refine hK _ ?_; clear hK K)
  refine Go.wpR_box (Go.clsExt _) 10 #[.int .i64 0, .int .i64 0, .int .i64 0, .int .i64 0, .int .i64 0, .int .i64 0, .int .i64 0, .int .i64 0, .int .i64 0, .int .i64 0] 26 rfl rfl rfl rfl rfl (fun w => by go_simp) (fun lo10 => ?_)
  refine Go.wpR_box (Go.clsExt _) 10 #[.int .i64 0, .int .i64 0, .int .i64 0, .int .i64 0, .int .i64 0, .int .i64 0, .int .i64 0, .int .i64 0, .int .i64 0, .int .i64 0] 26 rfl rfl rfl rfl rfl (fun w => by go_simp) (fun lo11 => ?_)
  refine Go.wpR_store (Go.clsExt _) 10 10 lo10 _ (.agg fa.toArray) fa rfl rfl rfl (by decide) rfl (by first | rfl | (simp [Go.Oper.stored]; go_simp)) (fun w h => Go.wrote_r h) (fun w cs0 hn hB => put_all 26 _ _ rfl lo10 cs0 fa hB rfl rfl (by rw [hn, hlfa]) (by rw [hlfa]; kernel_rfl) honefa) hlfa ?_
  refine Go.wpR_store (Go.clsExt _) 11 10 lo11 _ (.agg fb.toArray) fb rfl rfl rfl (by decide) rfl (by first | rfl | (simp [Go.Oper.stored]; go_simp)) (fun w h => Go.wrote_r h) (fun w cs0 hn hB => put_all 26 _ _ rfl lo11 cs0 fb hB rfl rfl (by rw [hn, hlfb]) (by rw [hlfb]; kernel_rfl) honefb) hlfb ?_
  (refine Go.wpR_plain (Go.clsExt _) rfl rfl (fun K hK => ?_); go_simp; refine hK _ ?_; clear hK K)
  refine Go.wpR_nil ?_
  intro E hm
  clear mk1 mk2
  have RIA := hid ((hm.one 12 _ _ _ rfl).1.2 _ rfl)
  have RIB := hid ((hm.one 13 _ _ _ rfl).1.2 _ rfl)
  have RSA3 := hid (RSA.out.below E.h)
  have RSB3 := hid (RSB.out.below E.h)
  have HB3 := hid (HB2.out.trans (E.h.mono HB2.out.size))
  obtain ⟨W3, hW3⟩ : ∃ X, X = E.w := ⟨_, rfl⟩
  rw [← hW3] at RIA RIB RSA3 RSB3 HB3 ⊢
  clear hm hW3 E BA2 BB2 HB2 RSA RSB
  go_wp2_with (first | (refine wpList_load_boxg rfl 26 _ rfl _ fa (by first | exact RIA.out.1 | exact RSA3.out.1) rfl _ Try.underlying26 rfl (by rw [hlfa]; kernel_rfl) ?_) | (refine wpList_load_boxg rfl 26 _ rfl _ fb (by first | exact RIB.out.1 | exact RSB3.out.1) rfl _ Try.underlying26 rfl (by rw [hlfb]; kernel_rfl) ?_) | (go_at_call 14; have hmk := HMK; refine (HQB.out _).mono ?_; rintro e wN ⟨rfl, bN⟩; have HB3 := hid (HB3.out.trans (bN.mono HB3.out.size)); clear bN) | (go_at_call 14; refine (HQA.out _).mono ?_; rintro e wN ⟨rfl, bN⟩; have RIB := hid (RIB.out.below bN); have RSB3 := hid (RSB3.out.below bN); have HB3 := hid (HB3.out.trans (bN.mono HB3.out.size)); clear bN; have HMK := hid True.intro))
  go_ret
  exact ⟨rfl, HB3.out⟩
end Go.Proofs.Ytilbmclhnlkkmaa
