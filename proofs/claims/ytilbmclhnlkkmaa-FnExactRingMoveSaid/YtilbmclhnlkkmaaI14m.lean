/- Chapter 14's program: RingMove. (printed by tools/mk_i14.py) -/
import Derived.Test.YtilbmclhnlkkmaaI14p
import Derived.Test.YtilbmclhnlkkmaaS14m
namespace Go.Proofs.Ytilbmclhnlkkmaa
set_option maxRecDepth 100000
open Go.RowKit Go.Proofs Go.Own
open Go Go.BigFrame
set_option linter.unusedVariables false
set_option linter.unusedSimpArgs false
set_option maxHeartbeats 16000000 in
theorem impl_RingMove0 (a b : RingD) (ha : a.cells_.length = 8) (hb : b.cells_.length = 8) (n : Int) (w : World) :
    Calls Try.prog 23 #[.agg a.enc.toArray, .agg b.enc.toArray, .int .i64 n] w fun e w' => e = .returned (.tuple #[.agg (moveC a b n).1.enc.toArray, .agg (moveC a b n).2.1.enc.toArray, .int .i64 (moveC a b n).2.2]) ∧ Below w.heap.size w w' := by
  have honea := ring_one a
  have honeb := ring_one b
  have hla := ring_len ha
  have hlb := ring_len hb
  have HLA := hid ha
  have HLB := hid hb
  have HA9 := hid (show a.enc[9]? = some (.int .i64 a.many_) by unfold RingD.enc; rw [List.getElem?_append_right (by rw [ints_len, ha]; omega), ints_len, ha]; rfl)
  have HB9' := hid (show b.enc[9]? = some (.int .i64 b.many_) by unfold RingD.enc; rw [List.getElem?_append_right (by rw [ints_len, hb]; omega), ints_len, hb]; rfl)
  have HOA := hid (fun (W : World) => impl_RingOk0 a ha W)
  have HOB := hid (fun (W : World) => impl_RingOk0 b hb W)
  obtain ⟨ca, hca⟩ : ∃ X, a.enc = X := ⟨_, rfl⟩
  obtain ⟨cb, hcb⟩ : ∃ X, b.enc = X := ⟨_, rfl⟩
  rw [hca] at hla honea HA9 HOA
  rw [hcb] at hlb honeb HB9' HOB
  rw [hca, hcb]
  have hla2 : ca.toArray.size = 10 := by rw [List.size_toArray, hla]
  have hlb2 : cb.toArray.size = 10 := by rw [List.size_toArray, hlb]
  obtain ⟨W1, hW1⟩ : ∃ X, (((w.alloc (.cells ca.toArray 26)).alloc (.cells cb.toArray 26)).alloc (.cells #[.int .i64 0, .int .i64 0, .int .i64 0, .int .i64 0, .int .i64 0, .int .i64 0, .int .i64 0, .int .i64 0, .int .i64 0, .int .i64 0] 26)).alloc (.cells #[.int .i64 0, .int .i64 0, .int .i64 0, .int .i64 0, .int .i64 0, .int .i64 0, .int .i64 0, .int .i64 0, .int .i64 0, .int .i64 0] 26) = X := ⟨_, rfl⟩
  have HB1 := hid (show Below w.heap.size w W1 by rw [← hW1]; exact ((((Below.refl _ _).alloc (Nat.le_refl _) _).alloc (by simp) _).alloc (by simp; omega) _).alloc (by simp; omega) _)
  have hh : W1.heap = (((w.heap.push (.cells ca.toArray 26)).push (.cells cb.toArray 26)).push (.cells #[.int .i64 0, .int .i64 0, .int .i64 0, .int .i64 0, .int .i64 0, .int .i64 0, .int .i64 0, .int .i64 0, .int .i64 0, .int .i64 0] 26)).push (.cells #[.int .i64 0, .int .i64 0, .int .i64 0, .int .i64 0, .int .i64 0, .int .i64 0, .int .i64 0, .int .i64 0, .int .i64 0, .int .i64 0] 26) := by rw [← hW1]; rfl
  have BA1 := hid (BoxF.ofHeap (w := W1) (b := w.heap.size) (cs := ca.toArray) (t := 26) (by rw [hh]; repeat (first | (refine push_hit _ _ _ ?_; (try simp only [Array.size_push]) <;> omega) | (refine (push_miss _ _ _ ?_).trans ?_; (first | omega | (simp only [Array.size_push]; omega))))))
  have BB1 := hid (BoxF.ofHeap (w := W1) (b := w.heap.size + 1) (cs := cb.toArray) (t := 26) (by rw [hh]; repeat (first | (refine push_hit _ _ _ ?_; (try simp only [Array.size_push]) <;> omega) | (refine (push_miss _ _ _ ?_).trans ?_; (first | omega | (simp only [Array.size_push]; omega))))))
  have RA1 := hid (BoxF.ofHeap (w := W1) (b := w.heap.size + 2) (cs := #[.int .i64 0, .int .i64 0, .int .i64 0, .int .i64 0, .int .i64 0, .int .i64 0, .int .i64 0, .int .i64 0, .int .i64 0, .int .i64 0]) (t := 26) (by rw [hh]; repeat (first | (refine push_hit _ _ _ ?_; (try simp only [Array.size_push]) <;> omega) | (refine (push_miss _ _ _ ?_).trans ?_; (first | omega | (simp only [Array.size_push]; omega))))))
  have RB1 := hid (BoxF.ofHeap (w := W1) (b := w.heap.size + 3) (cs := #[.int .i64 0, .int .i64 0, .int .i64 0, .int .i64 0, .int .i64 0, .int .i64 0, .int .i64 0, .int .i64 0, .int .i64 0, .int .i64 0]) (t := 26) (by rw [hh]; repeat (first | (refine push_hit _ _ _ ?_; (try simp only [Array.size_push]) <;> omega) | (refine (push_miss _ _ _ ?_).trans ?_; (first | omega | (simp only [Array.size_push]; omega))))))
  have hz : ∀ w : World, (zeroValue 26).run Try.prog w = .ok (.agg #[.int .i64 0, .int .i64 0, .int .i64 0, .int .i64 0, .int .i64 0, .int .i64 0, .int .i64 0, .int .i64 0, .int .i64 0, .int .i64 0]) w := fun w => zero_run w (by kernel_rfl)
  have HCA := hid hca
  have HCB := hid hcb
  clear ha hb hca hcb hh
  cases hoka : ringOk a with
  | false =>
    have Hr := hid (show moveC a b n = (a, b, 1) by simp [moveC, hoka])
    go_enter Try.func23, Try.ntmps23
    go_wp2_with (first | (refine wpList_load_boxg rfl 26 _ rfl (w.heap.size) ca (by exact BA1.out.1) rfl _ Try.underlying26 rfl (by rw [hla]; kernel_rfl) ?_) | (go_at_call 11; refine (HOA.out _).mono ?_; rintro e w2 ⟨rfl, b2⟩; rw [hoka]; have BA2 := hid (BA1.out.below b2); have BB2 := hid (BB1.out.below b2); have RA2 := hid (RA1.out.below b2); have RB2 := hid (RB1.out.below b2); have HB2 := hid (HB1.out.trans (b2.mono HB1.out.size)); clear b2))
    obtain ⟨CL, hCL⟩ : ∃ l, l = [Go.Chg.box 2 (w.heap.size + 2) ca, Go.Chg.box 3 (w.heap.size + 3) cb] := ⟨_, rfl⟩
    have hU : ∀ b, Go.chgU CL b → b = w.heap.size + 2 ∨ b = w.heap.size + 3 := by
      rintro b ⟨p, hp, hb⟩
      rw [hCL] at hp
      rcases List.mem_cons.1 hp with rfl | hp
      · exact .inl hb
      · obtain rfl := List.mem_singleton.1 hp
        exact .inr hb
    have hNA : ¬ Go.chgU CL (w.heap.size) := fun h => by rcases hU _ h with h | h <;> omega
    have hNB : ¬ Go.chgU CL (w.heap.size + 1) := fun h => by rcases hU _ h with h | h <;> omega
    have hSW : ∀ b, Go.chgU CL b → b < w2.heap.size := fun b h => by
      have h1 := RA2.out.1.1
      have h2 := RB2.out.1.1
      rcases hU b h with h | h <;> omega
    have hdj : CL.Pairwise (fun p q => p.i ≠ q.i ∧ ∀ b, p.S b → ¬ q.S b) := by
      rw [hCL]
      refine List.pairwise_cons.2 ⟨fun q hq => ?_, List.pairwise_singleton _ _⟩
      obtain rfl := List.mem_singleton.1 hq
      exact ⟨(by decide : (2 : Nat) ≠ 3), fun b h1 h2 => by have h1 : b = w.heap.size + 2 := h1; have h2 : b = w.heap.size + 3 := h2; omega⟩
    have hm2 : Go.Chg.box 2 (w.heap.size + 2) ca ∈ CL := by rw [hCL]; exact List.mem_cons_self
    have hm3 : Go.Chg.box 3 (w.heap.size + 3) cb ∈ CL := by rw [hCL]; exact List.mem_cons_of_mem _ List.mem_cons_self
    have hR2 : Go.chgR CL [Go.Rel.none, Go.Rel.none, Go.Rel.val undef, Go.Rel.val undef, Go.Rel.none] 2 = _ := Go.chgR_find [Go.Rel.none, Go.Rel.none, Go.Rel.val undef, Go.Rel.val undef, Go.Rel.none] hdj hm2
    have hR3 : Go.chgR CL [Go.Rel.none, Go.Rel.none, Go.Rel.val undef, Go.Rel.val undef, Go.Rel.none] 3 = _ := Go.chgR_find [Go.Rel.none, Go.Rel.none, Go.Rel.val undef, Go.Rel.val undef, Go.Rel.none] hdj hm3
    have mk1 : ∀ (P : Program) (o : Oper) (a : Act) (w : World) (v : Value), Oper.plainAt P o a w v = Oper.plainUpon w v ((execOp a.eval o).run P w) := fun _ _ _ _ _ => rfl; have mk2 : ∀ (w w' : World) (v u : Value), Oper.plainUpon w v (.ok (.value u) w') = (w' = w ∧ u = v) := fun _ _ _ _ => rfl
    refine Go.wp_region_chgs CL [Go.Rel.none, Go.Rel.none, Go.Rel.val undef, Go.Rel.val undef, Go.Rel.none] [[], [], [], [], []] [.plain, .plain, .change, .change, .plain] (by kernel_rfl) (by kernel_rfl) (by kernel_rfl) (by kernel_rfl) (by kernel_rfl) (by rw [hCL]; kernel_rfl) (by rw [hCL]; kernel_rfl) hSW hdj ?_
    refine Go.wpR_plain5 (Go.clsExtS _ _ hSW) rfl rfl (fun K hK => ?_)
    refine ⟨.agg ca.toArray, fun w8 hC => by
      obtain ⟨E, rfl⟩ := hC
      exact plain_load_mid 26 _ rfl (w.heap.size) 0 rfl ca _ (BA2.out.chg E.h hNA).1.range Try.underlying26 rfl (by rw [hla]; kernel_rfl), ?_⟩
    go_simp
    refine hK _ ?_
    clear hK K
    refine Go.wpR_plain5 (Go.clsExtS _ _ hSW) rfl rfl (fun K hK => ?_)
    refine ⟨.agg cb.toArray, fun w8 hC => by
      obtain ⟨E, rfl⟩ := hC
      exact plain_load_mid 26 _ rfl (w.heap.size + 1) 0 rfl cb _ (BB2.out.chg E.h hNB).1.range Try.underlying26 rfl (by rw [hlb]; kernel_rfl), ?_⟩
    go_simp
    refine hK _ ?_
    clear hK K
    refine Go.wpR_putbox _ _ _ (w.heap.size + 2) [.int .i64 0, .int .i64 0, .int .i64 0, .int .i64 0, .int .i64 0, .int .i64 0, .int .i64 0, .int .i64 0, .int .i64 0, .int .i64 0] ca hdj hm2 RA2.out rfl rfl rfl (by rw [hla]; rfl) (by rw [hla]; kernel_rfl) honea rfl rfl rfl (fun lo5 hi5 => ?_)
    refine Go.wpR_putbox _ _ _ (w.heap.size + 3) [.int .i64 0, .int .i64 0, .int .i64 0, .int .i64 0, .int .i64 0, .int .i64 0, .int .i64 0, .int .i64 0, .int .i64 0, .int .i64 0] cb hdj hm3 RB2.out rfl rfl rfl (by rw [hlb]; rfl) (by rw [hlb]; kernel_rfl) honeb rfl rfl rfl (fun lo5 hi5 => ?_)
    (refine Go.wpR_plain5 (Go.clsExtS _ _ hSW) rfl rfl (fun K hK => ?_); go_simp; refine hK _ ?_; clear hK K)
    refine Go.wpR_nil5 ?_
    intro E hm
    have q2 := (hm.one 2 _ _ _ rfl).1
    rw [hR2] at q2
    have q3 := (hm.one 3 _ _ _ rfl).1
    rw [hR3] at q3
    have O2 := hid (show BoxF E.w (w.heap.size + 2) ca from q2)
    have O3 := hid (show BoxF E.w (w.heap.size + 3) cb from q3)
    have HB9 := hid (below_chg HB2.out E.h HB2.out.size (fun b hb => by rcases hU b hb with h | h <;> omega))
    clear hm q2 q3
    go_wp2
    exact bodyPost_ret (results_boxes rfl _ _ (w.heap.size + 2) (w.heap.size + 3) ca cb rfl rfl O2.out O3.out _ Try.underlying26 rfl (by rw [hla]; kernel_rfl) (by rw [hlb]; kernel_rfl)) rfl ⟨by rw [Hr.out, HCA.out, HCB.out]; rfl, HB9.out⟩
  | true =>
  cases hokb : ringOk b with
  | false =>
    have Hr := hid (show moveC a b n = (a, b, 1) by simp [moveC, hokb])
    go_enter Try.func23, Try.ntmps23
    go_wp2_with (first | (refine wpList_load_boxg rfl 26 _ rfl (w.heap.size + 1) cb (by exact BB2.out.1) rfl _ Try.underlying26 rfl (by rw [hlb]; kernel_rfl) ?_) | (go_at_call 11; have h2' := HB2; refine (HOB.out _).mono ?_; rintro e w3 ⟨rfl, b3⟩; rw [hokb]; have BA3 := hid (BA2.out.below b3); have BB3 := hid (BB2.out.below b3); have RA3 := hid (RA2.out.below b3); have RB3 := hid (RB2.out.below b3); have HB3 := hid (HB2.out.trans (b3.mono HB2.out.size)); clear b3) | (refine wpList_load_boxg rfl 26 _ rfl (w.heap.size) ca (by exact BA1.out.1) rfl _ Try.underlying26 rfl (by rw [hla]; kernel_rfl) ?_) | (go_at_call 11; refine (HOA.out _).mono ?_; rintro e w2 ⟨rfl, b2⟩; rw [hoka]; have BA2 := hid (BA1.out.below b2); have BB2 := hid (BB1.out.below b2); have RA2 := hid (RA1.out.below b2); have RB2 := hid (RB1.out.below b2); have HB2 := hid (HB1.out.trans (b2.mono HB1.out.size)); clear b2))
    obtain ⟨CL, hCL⟩ : ∃ l, l = [Go.Chg.box 2 (w.heap.size + 2) ca, Go.Chg.box 3 (w.heap.size + 3) cb] := ⟨_, rfl⟩
    have hU : ∀ b, Go.chgU CL b → b = w.heap.size + 2 ∨ b = w.heap.size + 3 := by
      rintro b ⟨p, hp, hb⟩
      rw [hCL] at hp
      rcases List.mem_cons.1 hp with rfl | hp
      · exact .inl hb
      · obtain rfl := List.mem_singleton.1 hp
        exact .inr hb
    have hNA : ¬ Go.chgU CL (w.heap.size) := fun h => by rcases hU _ h with h | h <;> omega
    have hNB : ¬ Go.chgU CL (w.heap.size + 1) := fun h => by rcases hU _ h with h | h <;> omega
    have hSW : ∀ b, Go.chgU CL b → b < w3.heap.size := fun b h => by
      have h1 := RA3.out.1.1
      have h2 := RB3.out.1.1
      rcases hU b h with h | h <;> omega
    have hdj : CL.Pairwise (fun p q => p.i ≠ q.i ∧ ∀ b, p.S b → ¬ q.S b) := by
      rw [hCL]
      refine List.pairwise_cons.2 ⟨fun q hq => ?_, List.pairwise_singleton _ _⟩
      obtain rfl := List.mem_singleton.1 hq
      exact ⟨(by decide : (2 : Nat) ≠ 3), fun b h1 h2 => by have h1 : b = w.heap.size + 2 := h1; have h2 : b = w.heap.size + 3 := h2; omega⟩
    have hm2 : Go.Chg.box 2 (w.heap.size + 2) ca ∈ CL := by rw [hCL]; exact List.mem_cons_self
    have hm3 : Go.Chg.box 3 (w.heap.size + 3) cb ∈ CL := by rw [hCL]; exact List.mem_cons_of_mem _ List.mem_cons_self
    have hR2 : Go.chgR CL [Go.Rel.none, Go.Rel.none, Go.Rel.val undef, Go.Rel.val undef, Go.Rel.none] 2 = _ := Go.chgR_find [Go.Rel.none, Go.Rel.none, Go.Rel.val undef, Go.Rel.val undef, Go.Rel.none] hdj hm2
    have hR3 : Go.chgR CL [Go.Rel.none, Go.Rel.none, Go.Rel.val undef, Go.Rel.val undef, Go.Rel.none] 3 = _ := Go.chgR_find [Go.Rel.none, Go.Rel.none, Go.Rel.val undef, Go.Rel.val undef, Go.Rel.none] hdj hm3
    have mk1 : ∀ (P : Program) (o : Oper) (a : Act) (w : World) (v : Value), Oper.plainAt P o a w v = Oper.plainUpon w v ((execOp a.eval o).run P w) := fun _ _ _ _ _ => rfl; have mk2 : ∀ (w w' : World) (v u : Value), Oper.plainUpon w v (.ok (.value u) w') = (w' = w ∧ u = v) := fun _ _ _ _ => rfl
    refine Go.wp_region_chgs CL [Go.Rel.none, Go.Rel.none, Go.Rel.val undef, Go.Rel.val undef, Go.Rel.none] [[], [], [], [], []] [.plain, .plain, .change, .change, .plain] (by kernel_rfl) (by kernel_rfl) (by kernel_rfl) (by kernel_rfl) (by kernel_rfl) (by rw [hCL]; kernel_rfl) (by rw [hCL]; kernel_rfl) hSW hdj ?_
    refine Go.wpR_plain5 (Go.clsExtS _ _ hSW) rfl rfl (fun K hK => ?_)
    refine ⟨.agg ca.toArray, fun w8 hC => by
      obtain ⟨E, rfl⟩ := hC
      exact plain_load_mid 26 _ rfl (w.heap.size) 0 rfl ca _ (BA3.out.chg E.h hNA).1.range Try.underlying26 rfl (by rw [hla]; kernel_rfl), ?_⟩
    go_simp
    refine hK _ ?_
    clear hK K
    refine Go.wpR_plain5 (Go.clsExtS _ _ hSW) rfl rfl (fun K hK => ?_)
    refine ⟨.agg cb.toArray, fun w8 hC => by
      obtain ⟨E, rfl⟩ := hC
      exact plain_load_mid 26 _ rfl (w.heap.size + 1) 0 rfl cb _ (BB3.out.chg E.h hNB).1.range Try.underlying26 rfl (by rw [hlb]; kernel_rfl), ?_⟩
    go_simp
    refine hK _ ?_
    clear hK K
    refine Go.wpR_putbox _ _ _ (w.heap.size + 2) [.int .i64 0, .int .i64 0, .int .i64 0, .int .i64 0, .int .i64 0, .int .i64 0, .int .i64 0, .int .i64 0, .int .i64 0, .int .i64 0] ca hdj hm2 RA3.out rfl rfl rfl (by rw [hla]; rfl) (by rw [hla]; kernel_rfl) honea rfl rfl rfl (fun lo5 hi5 => ?_)
    refine Go.wpR_putbox _ _ _ (w.heap.size + 3) [.int .i64 0, .int .i64 0, .int .i64 0, .int .i64 0, .int .i64 0, .int .i64 0, .int .i64 0, .int .i64 0, .int .i64 0, .int .i64 0] cb hdj hm3 RB3.out rfl rfl rfl (by rw [hlb]; rfl) (by rw [hlb]; kernel_rfl) honeb rfl rfl rfl (fun lo5 hi5 => ?_)
    (refine Go.wpR_plain5 (Go.clsExtS _ _ hSW) rfl rfl (fun K hK => ?_); go_simp; refine hK _ ?_; clear hK K)
    refine Go.wpR_nil5 ?_
    intro E hm
    have q2 := (hm.one 2 _ _ _ rfl).1
    rw [hR2] at q2
    have q3 := (hm.one 3 _ _ _ rfl).1
    rw [hR3] at q3
    have O2 := hid (show BoxF E.w (w.heap.size + 2) ca from q2)
    have O3 := hid (show BoxF E.w (w.heap.size + 3) cb from q3)
    have HB9 := hid (below_chg HB3.out E.h HB3.out.size (fun b hb => by rcases hU b hb with h | h <;> omega))
    clear hm q2 q3
    go_wp2
    exact bodyPost_ret (results_boxes rfl _ _ (w.heap.size + 2) (w.heap.size + 3) ca cb rfl rfl O2.out O3.out _ Try.underlying26 rfl (by rw [hla]; kernel_rfl) (by rw [hlb]; kernel_rfl)) rfl ⟨by rw [Hr.out, HCA.out, HCB.out]; rfl, HB9.out⟩
  | true =>
  by_cases hn0 : n < 0
  · have Hr := hid (show moveC a b n = (a, b, 1) by simp [moveC, inB]; omega)
    go_enter Try.func23, Try.ntmps23
    go_wp2_with (first | (refine wpList_load_boxg rfl 26 _ rfl (w.heap.size + 1) cb (by exact BB2.out.1) rfl _ Try.underlying26 rfl (by rw [hlb]; kernel_rfl) ?_) | (go_at_call 11; have h2' := HB2; refine (HOB.out _).mono ?_; rintro e w3 ⟨rfl, b3⟩; rw [hokb]; have BA3 := hid (BA2.out.below b3); have BB3 := hid (BB2.out.below b3); have RA3 := hid (RA2.out.below b3); have RB3 := hid (RB2.out.below b3); have HB3 := hid (HB2.out.trans (b3.mono HB2.out.size)); clear b3) | (refine wpList_load_boxg rfl 26 _ rfl (w.heap.size) ca (by exact BA1.out.1) rfl _ Try.underlying26 rfl (by rw [hla]; kernel_rfl) ?_) | (go_at_call 11; refine (HOA.out _).mono ?_; rintro e w2 ⟨rfl, b2⟩; rw [hoka]; have BA2 := hid (BA1.out.below b2); have BB2 := hid (BB1.out.below b2); have RA2 := hid (RA1.out.below b2); have RB2 := hid (RB1.out.below b2); have HB2 := hid (HB1.out.trans (b2.mono HB1.out.size)); clear b2))
    obtain ⟨CL, hCL⟩ : ∃ l, l = [Go.Chg.box 2 (w.heap.size + 2) ca, Go.Chg.box 3 (w.heap.size + 3) cb] := ⟨_, rfl⟩
    have hU : ∀ b, Go.chgU CL b → b = w.heap.size + 2 ∨ b = w.heap.size + 3 := by
      rintro b ⟨p, hp, hb⟩
      rw [hCL] at hp
      rcases List.mem_cons.1 hp with rfl | hp
      · exact .inl hb
      · obtain rfl := List.mem_singleton.1 hp
        exact .inr hb
    have hNA : ¬ Go.chgU CL (w.heap.size) := fun h => by rcases hU _ h with h | h <;> omega
    have hNB : ¬ Go.chgU CL (w.heap.size + 1) := fun h => by rcases hU _ h with h | h <;> omega
    have hSW : ∀ b, Go.chgU CL b → b < w3.heap.size := fun b h => by
      have h1 := RA3.out.1.1
      have h2 := RB3.out.1.1
      rcases hU b h with h | h <;> omega
    have hdj : CL.Pairwise (fun p q => p.i ≠ q.i ∧ ∀ b, p.S b → ¬ q.S b) := by
      rw [hCL]
      refine List.pairwise_cons.2 ⟨fun q hq => ?_, List.pairwise_singleton _ _⟩
      obtain rfl := List.mem_singleton.1 hq
      exact ⟨(by decide : (2 : Nat) ≠ 3), fun b h1 h2 => by have h1 : b = w.heap.size + 2 := h1; have h2 : b = w.heap.size + 3 := h2; omega⟩
    have hm2 : Go.Chg.box 2 (w.heap.size + 2) ca ∈ CL := by rw [hCL]; exact List.mem_cons_self
    have hm3 : Go.Chg.box 3 (w.heap.size + 3) cb ∈ CL := by rw [hCL]; exact List.mem_cons_of_mem _ List.mem_cons_self
    have hR2 : Go.chgR CL [Go.Rel.none, Go.Rel.none, Go.Rel.val undef, Go.Rel.val undef, Go.Rel.none] 2 = _ := Go.chgR_find [Go.Rel.none, Go.Rel.none, Go.Rel.val undef, Go.Rel.val undef, Go.Rel.none] hdj hm2
    have hR3 : Go.chgR CL [Go.Rel.none, Go.Rel.none, Go.Rel.val undef, Go.Rel.val undef, Go.Rel.none] 3 = _ := Go.chgR_find [Go.Rel.none, Go.Rel.none, Go.Rel.val undef, Go.Rel.val undef, Go.Rel.none] hdj hm3
    have mk1 : ∀ (P : Program) (o : Oper) (a : Act) (w : World) (v : Value), Oper.plainAt P o a w v = Oper.plainUpon w v ((execOp a.eval o).run P w) := fun _ _ _ _ _ => rfl; have mk2 : ∀ (w w' : World) (v u : Value), Oper.plainUpon w v (.ok (.value u) w') = (w' = w ∧ u = v) := fun _ _ _ _ => rfl
    refine Go.wp_region_chgs CL [Go.Rel.none, Go.Rel.none, Go.Rel.val undef, Go.Rel.val undef, Go.Rel.none] [[], [], [], [], []] [.plain, .plain, .change, .change, .plain] (by kernel_rfl) (by kernel_rfl) (by kernel_rfl) (by kernel_rfl) (by kernel_rfl) (by rw [hCL]; kernel_rfl) (by rw [hCL]; kernel_rfl) hSW hdj ?_
    refine Go.wpR_plain5 (Go.clsExtS _ _ hSW) rfl rfl (fun K hK => ?_)
    refine ⟨.agg ca.toArray, fun w8 hC => by
      obtain ⟨E, rfl⟩ := hC
      exact plain_load_mid 26 _ rfl (w.heap.size) 0 rfl ca _ (BA3.out.chg E.h hNA).1.range Try.underlying26 rfl (by rw [hla]; kernel_rfl), ?_⟩
    go_simp
    refine hK _ ?_
    clear hK K
    refine Go.wpR_plain5 (Go.clsExtS _ _ hSW) rfl rfl (fun K hK => ?_)
    refine ⟨.agg cb.toArray, fun w8 hC => by
      obtain ⟨E, rfl⟩ := hC
      exact plain_load_mid 26 _ rfl (w.heap.size + 1) 0 rfl cb _ (BB3.out.chg E.h hNB).1.range Try.underlying26 rfl (by rw [hlb]; kernel_rfl), ?_⟩
    go_simp
    refine hK _ ?_
    clear hK K
    refine Go.wpR_putbox _ _ _ (w.heap.size + 2) [.int .i64 0, .int .i64 0, .int .i64 0, .int .i64 0, .int .i64 0, .int .i64 0, .int .i64 0, .int .i64 0, .int .i64 0, .int .i64 0] ca hdj hm2 RA3.out rfl rfl rfl (by rw [hla]; rfl) (by rw [hla]; kernel_rfl) honea rfl rfl rfl (fun lo5 hi5 => ?_)
    refine Go.wpR_putbox _ _ _ (w.heap.size + 3) [.int .i64 0, .int .i64 0, .int .i64 0, .int .i64 0, .int .i64 0, .int .i64 0, .int .i64 0, .int .i64 0, .int .i64 0, .int .i64 0] cb hdj hm3 RB3.out rfl rfl rfl (by rw [hlb]; rfl) (by rw [hlb]; kernel_rfl) honeb rfl rfl rfl (fun lo5 hi5 => ?_)
    (refine Go.wpR_plain5 (Go.clsExtS _ _ hSW) rfl rfl (fun K hK => ?_); go_simp; refine hK _ ?_; clear hK K)
    refine Go.wpR_nil5 ?_
    intro E hm
    have q2 := (hm.one 2 _ _ _ rfl).1
    rw [hR2] at q2
    have q3 := (hm.one 3 _ _ _ rfl).1
    rw [hR3] at q3
    have O2 := hid (show BoxF E.w (w.heap.size + 2) ca from q2)
    have O3 := hid (show BoxF E.w (w.heap.size + 3) cb from q3)
    have HB9 := hid (below_chg HB3.out E.h HB3.out.size (fun b hb => by rcases hU b hb with h | h <;> omega))
    clear hm q2 q3
    go_wp2
    exact bodyPost_ret (results_boxes rfl _ _ (w.heap.size + 2) (w.heap.size + 3) ca cb rfl rfl O2.out O3.out _ Try.underlying26 rfl (by rw [hla]; kernel_rfl) (by rw [hlb]; kernel_rfl)) rfl ⟨by rw [Hr.out, HCA.out, HCB.out]; rfl, HB9.out⟩
  by_cases hn8 : 8 < n
  · have Hr := hid (show moveC a b n = (a, b, 1) by simp [moveC, inB]; omega)
    go_enter Try.func23, Try.ntmps23
    go_wp2_with (first | (refine wpList_load_boxg rfl 26 _ rfl (w.heap.size + 1) cb (by exact BB2.out.1) rfl _ Try.underlying26 rfl (by rw [hlb]; kernel_rfl) ?_) | (go_at_call 11; have h2' := HB2; refine (HOB.out _).mono ?_; rintro e w3 ⟨rfl, b3⟩; rw [hokb]; have BA3 := hid (BA2.out.below b3); have BB3 := hid (BB2.out.below b3); have RA3 := hid (RA2.out.below b3); have RB3 := hid (RB2.out.below b3); have HB3 := hid (HB2.out.trans (b3.mono HB2.out.size)); clear b3) | (refine wpList_load_boxg rfl 26 _ rfl (w.heap.size) ca (by exact BA1.out.1) rfl _ Try.underlying26 rfl (by rw [hla]; kernel_rfl) ?_) | (go_at_call 11; refine (HOA.out _).mono ?_; rintro e w2 ⟨rfl, b2⟩; rw [hoka]; have BA2 := hid (BA1.out.below b2); have BB2 := hid (BB1.out.below b2); have RA2 := hid (RA1.out.below b2); have RB2 := hid (RB1.out.below b2); have HB2 := hid (HB1.out.trans (b2.mono HB1.out.size)); clear b2))
    obtain ⟨CL, hCL⟩ : ∃ l, l = [Go.Chg.box 2 (w.heap.size + 2) ca, Go.Chg.box 3 (w.heap.size + 3) cb] := ⟨_, rfl⟩
    have hU : ∀ b, Go.chgU CL b → b = w.heap.size + 2 ∨ b = w.heap.size + 3 := by
      rintro b ⟨p, hp, hb⟩
      rw [hCL] at hp
      rcases List.mem_cons.1 hp with rfl | hp
      · exact .inl hb
      · obtain rfl := List.mem_singleton.1 hp
        exact .inr hb
    have hNA : ¬ Go.chgU CL (w.heap.size) := fun h => by rcases hU _ h with h | h <;> omega
    have hNB : ¬ Go.chgU CL (w.heap.size + 1) := fun h => by rcases hU _ h with h | h <;> omega
    have hSW : ∀ b, Go.chgU CL b → b < w3.heap.size := fun b h => by
      have h1 := RA3.out.1.1
      have h2 := RB3.out.1.1
      rcases hU b h with h | h <;> omega
    have hdj : CL.Pairwise (fun p q => p.i ≠ q.i ∧ ∀ b, p.S b → ¬ q.S b) := by
      rw [hCL]
      refine List.pairwise_cons.2 ⟨fun q hq => ?_, List.pairwise_singleton _ _⟩
      obtain rfl := List.mem_singleton.1 hq
      exact ⟨(by decide : (2 : Nat) ≠ 3), fun b h1 h2 => by have h1 : b = w.heap.size + 2 := h1; have h2 : b = w.heap.size + 3 := h2; omega⟩
    have hm2 : Go.Chg.box 2 (w.heap.size + 2) ca ∈ CL := by rw [hCL]; exact List.mem_cons_self
    have hm3 : Go.Chg.box 3 (w.heap.size + 3) cb ∈ CL := by rw [hCL]; exact List.mem_cons_of_mem _ List.mem_cons_self
    have hR2 : Go.chgR CL [Go.Rel.none, Go.Rel.none, Go.Rel.val undef, Go.Rel.val undef, Go.Rel.none] 2 = _ := Go.chgR_find [Go.Rel.none, Go.Rel.none, Go.Rel.val undef, Go.Rel.val undef, Go.Rel.none] hdj hm2
    have hR3 : Go.chgR CL [Go.Rel.none, Go.Rel.none, Go.Rel.val undef, Go.Rel.val undef, Go.Rel.none] 3 = _ := Go.chgR_find [Go.Rel.none, Go.Rel.none, Go.Rel.val undef, Go.Rel.val undef, Go.Rel.none] hdj hm3
    have mk1 : ∀ (P : Program) (o : Oper) (a : Act) (w : World) (v : Value), Oper.plainAt P o a w v = Oper.plainUpon w v ((execOp a.eval o).run P w) := fun _ _ _ _ _ => rfl; have mk2 : ∀ (w w' : World) (v u : Value), Oper.plainUpon w v (.ok (.value u) w') = (w' = w ∧ u = v) := fun _ _ _ _ => rfl
    refine Go.wp_region_chgs CL [Go.Rel.none, Go.Rel.none, Go.Rel.val undef, Go.Rel.val undef, Go.Rel.none] [[], [], [], [], []] [.plain, .plain, .change, .change, .plain] (by kernel_rfl) (by kernel_rfl) (by kernel_rfl) (by kernel_rfl) (by kernel_rfl) (by rw [hCL]; kernel_rfl) (by rw [hCL]; kernel_rfl) hSW hdj ?_
    refine Go.wpR_plain5 (Go.clsExtS _ _ hSW) rfl rfl (fun K hK => ?_)
    refine ⟨.agg ca.toArray, fun w8 hC => by
      obtain ⟨E, rfl⟩ := hC
      exact plain_load_mid 26 _ rfl (w.heap.size) 0 rfl ca _ (BA3.out.chg E.h hNA).1.range Try.underlying26 rfl (by rw [hla]; kernel_rfl), ?_⟩
    go_simp
    refine hK _ ?_
    clear hK K
    refine Go.wpR_plain5 (Go.clsExtS _ _ hSW) rfl rfl (fun K hK => ?_)
    refine ⟨.agg cb.toArray, fun w8 hC => by
      obtain ⟨E, rfl⟩ := hC
      exact plain_load_mid 26 _ rfl (w.heap.size + 1) 0 rfl cb _ (BB3.out.chg E.h hNB).1.range Try.underlying26 rfl (by rw [hlb]; kernel_rfl), ?_⟩
    go_simp
    refine hK _ ?_
    clear hK K
    refine Go.wpR_putbox _ _ _ (w.heap.size + 2) [.int .i64 0, .int .i64 0, .int .i64 0, .int .i64 0, .int .i64 0, .int .i64 0, .int .i64 0, .int .i64 0, .int .i64 0, .int .i64 0] ca hdj hm2 RA3.out rfl rfl rfl (by rw [hla]; rfl) (by rw [hla]; kernel_rfl) honea rfl rfl rfl (fun lo5 hi5 => ?_)
    refine Go.wpR_putbox _ _ _ (w.heap.size + 3) [.int .i64 0, .int .i64 0, .int .i64 0, .int .i64 0, .int .i64 0, .int .i64 0, .int .i64 0, .int .i64 0, .int .i64 0, .int .i64 0] cb hdj hm3 RB3.out rfl rfl rfl (by rw [hlb]; rfl) (by rw [hlb]; kernel_rfl) honeb rfl rfl rfl (fun lo5 hi5 => ?_)
    (refine Go.wpR_plain5 (Go.clsExtS _ _ hSW) rfl rfl (fun K hK => ?_); go_simp; refine hK _ ?_; clear hK K)
    refine Go.wpR_nil5 ?_
    intro E hm
    have q2 := (hm.one 2 _ _ _ rfl).1
    rw [hR2] at q2
    have q3 := (hm.one 3 _ _ _ rfl).1
    rw [hR3] at q3
    have O2 := hid (show BoxF E.w (w.heap.size + 2) ca from q2)
    have O3 := hid (show BoxF E.w (w.heap.size + 3) cb from q3)
    have HB9 := hid (below_chg HB3.out E.h HB3.out.size (fun b hb => by rcases hU b hb with h | h <;> omega))
    clear hm q2 q3
    go_wp2
    exact bodyPost_ret (results_boxes rfl _ _ (w.heap.size + 2) (w.heap.size + 3) ca cb rfl rfl O2.out O3.out _ Try.underlying26 rfl (by rw [hla]; kernel_rfl) (by rw [hlb]; kernel_rfl)) rfl ⟨by rw [Hr.out, HCA.out, HCB.out]; rfl, HB9.out⟩
  have hn : inB n 0 8 = true := by simp [inB]; omega
  have hma : 0 ≤ a.many_ ∧ a.many_ ≤ 8 := ((ringOk_iff a).1 hoka).2.1
  have hmb : 0 ≤ b.many_ ∧ b.many_ ≤ 8 := ((ringOk_iff b).1 hokb).2.1
  by_cases hm : a.many_ < n
  · have Hr := hid (show moveC a b n = (a, b, 3) by simp [moveC, hoka, hokb, hn, hm])
    clear hn
    go_enter Try.func23, Try.ntmps23
    go_wp2_with (first | (refine wpList_load_boxg rfl 26 _ rfl (w.heap.size + 1) cb (by exact BB2.out.1) rfl _ Try.underlying26 rfl (by rw [hlb]; kernel_rfl) ?_) | (go_at_call 11; have h2' := HB2; refine (HOB.out _).mono ?_; rintro e w3 ⟨rfl, b3⟩; rw [hokb]; have BA3 := hid (BA2.out.below b3); have BB3 := hid (BB2.out.below b3); have RA3 := hid (RA2.out.below b3); have RB3 := hid (RB2.out.below b3); have HB3 := hid (HB2.out.trans (b3.mono HB2.out.size)); clear b3; have k9a : w3.cell? ⟨w.heap.size, 9, none⟩ = some (.int .i64 a.many_) := (BA3.out.1.2 9 (by omega)).trans HA9.out; have k9b : w3.cell? ⟨w.heap.size + 1, 9, none⟩ = some (.int .i64 b.many_) := (BB3.out.1.2 9 (by omega)).trans HB9'.out) | (refine wpList_load_boxg rfl 26 _ rfl (w.heap.size) ca (by exact BA1.out.1) rfl _ Try.underlying26 rfl (by rw [hla]; kernel_rfl) ?_) | (go_at_call 11; refine (HOA.out _).mono ?_; rintro e w2 ⟨rfl, b2⟩; rw [hoka]; have BA2 := hid (BA1.out.below b2); have BB2 := hid (BB1.out.below b2); have RA2 := hid (RA1.out.below b2); have RB2 := hid (RB1.out.below b2); have HB2 := hid (HB1.out.trans (b2.mono HB1.out.size)); clear b2))
    obtain ⟨CL, hCL⟩ : ∃ l, l = [Go.Chg.box 2 (w.heap.size + 2) ca, Go.Chg.box 3 (w.heap.size + 3) cb] := ⟨_, rfl⟩
    have hU : ∀ b, Go.chgU CL b → b = w.heap.size + 2 ∨ b = w.heap.size + 3 := by
      rintro b ⟨p, hp, hb⟩
      rw [hCL] at hp
      rcases List.mem_cons.1 hp with rfl | hp
      · exact .inl hb
      · obtain rfl := List.mem_singleton.1 hp
        exact .inr hb
    have hNA : ¬ Go.chgU CL (w.heap.size) := fun h => by rcases hU _ h with h | h <;> omega
    have hNB : ¬ Go.chgU CL (w.heap.size + 1) := fun h => by rcases hU _ h with h | h <;> omega
    have hSW : ∀ b, Go.chgU CL b → b < w3.heap.size := fun b h => by
      have h1 := RA3.out.1.1
      have h2 := RB3.out.1.1
      rcases hU b h with h | h <;> omega
    have hdj : CL.Pairwise (fun p q => p.i ≠ q.i ∧ ∀ b, p.S b → ¬ q.S b) := by
      rw [hCL]
      refine List.pairwise_cons.2 ⟨fun q hq => ?_, List.pairwise_singleton _ _⟩
      obtain rfl := List.mem_singleton.1 hq
      exact ⟨(by decide : (2 : Nat) ≠ 3), fun b h1 h2 => by have h1 : b = w.heap.size + 2 := h1; have h2 : b = w.heap.size + 3 := h2; omega⟩
    have hm2 : Go.Chg.box 2 (w.heap.size + 2) ca ∈ CL := by rw [hCL]; exact List.mem_cons_self
    have hm3 : Go.Chg.box 3 (w.heap.size + 3) cb ∈ CL := by rw [hCL]; exact List.mem_cons_of_mem _ List.mem_cons_self
    have hR2 : Go.chgR CL [Go.Rel.none, Go.Rel.none, Go.Rel.val undef, Go.Rel.val undef, Go.Rel.none] 2 = _ := Go.chgR_find [Go.Rel.none, Go.Rel.none, Go.Rel.val undef, Go.Rel.val undef, Go.Rel.none] hdj hm2
    have hR3 : Go.chgR CL [Go.Rel.none, Go.Rel.none, Go.Rel.val undef, Go.Rel.val undef, Go.Rel.none] 3 = _ := Go.chgR_find [Go.Rel.none, Go.Rel.none, Go.Rel.val undef, Go.Rel.val undef, Go.Rel.none] hdj hm3
    have mk1 : ∀ (P : Program) (o : Oper) (a : Act) (w : World) (v : Value), Oper.plainAt P o a w v = Oper.plainUpon w v ((execOp a.eval o).run P w) := fun _ _ _ _ _ => rfl; have mk2 : ∀ (w w' : World) (v u : Value), Oper.plainUpon w v (.ok (.value u) w') = (w' = w ∧ u = v) := fun _ _ _ _ => rfl
    refine Go.wp_region_chgs CL [Go.Rel.none, Go.Rel.none, Go.Rel.val undef, Go.Rel.val undef, Go.Rel.none] [[], [], [], [], []] [.plain, .plain, .change, .change, .plain] (by kernel_rfl) (by kernel_rfl) (by kernel_rfl) (by kernel_rfl) (by kernel_rfl) (by rw [hCL]; kernel_rfl) (by rw [hCL]; kernel_rfl) hSW hdj ?_
    refine Go.wpR_plain5 (Go.clsExtS _ _ hSW) rfl rfl (fun K hK => ?_)
    refine ⟨.agg ca.toArray, fun w8 hC => by
      obtain ⟨E, rfl⟩ := hC
      exact plain_load_mid 26 _ rfl (w.heap.size) 0 rfl ca _ (BA3.out.chg E.h hNA).1.range Try.underlying26 rfl (by rw [hla]; kernel_rfl), ?_⟩
    go_simp
    refine hK _ ?_
    clear hK K
    refine Go.wpR_plain5 (Go.clsExtS _ _ hSW) rfl rfl (fun K hK => ?_)
    refine ⟨.agg cb.toArray, fun w8 hC => by
      obtain ⟨E, rfl⟩ := hC
      exact plain_load_mid 26 _ rfl (w.heap.size + 1) 0 rfl cb _ (BB3.out.chg E.h hNB).1.range Try.underlying26 rfl (by rw [hlb]; kernel_rfl), ?_⟩
    go_simp
    refine hK _ ?_
    clear hK K
    refine Go.wpR_putbox _ _ _ (w.heap.size + 2) [.int .i64 0, .int .i64 0, .int .i64 0, .int .i64 0, .int .i64 0, .int .i64 0, .int .i64 0, .int .i64 0, .int .i64 0, .int .i64 0] ca hdj hm2 RA3.out rfl rfl rfl (by rw [hla]; rfl) (by rw [hla]; kernel_rfl) honea rfl rfl rfl (fun lo5 hi5 => ?_)
    refine Go.wpR_putbox _ _ _ (w.heap.size + 3) [.int .i64 0, .int .i64 0, .int .i64 0, .int .i64 0, .int .i64 0, .int .i64 0, .int .i64 0, .int .i64 0, .int .i64 0, .int .i64 0] cb hdj hm3 RB3.out rfl rfl rfl (by rw [hlb]; rfl) (by rw [hlb]; kernel_rfl) honeb rfl rfl rfl (fun lo5 hi5 => ?_)
    (refine Go.wpR_plain5 (Go.clsExtS _ _ hSW) rfl rfl (fun K hK => ?_); go_simp; refine hK _ ?_; clear hK K)
    refine Go.wpR_nil5 ?_
    intro E hm
    have q2 := (hm.one 2 _ _ _ rfl).1
    rw [hR2] at q2
    have q3 := (hm.one 3 _ _ _ rfl).1
    rw [hR3] at q3
    have O2 := hid (show BoxF E.w (w.heap.size + 2) ca from q2)
    have O3 := hid (show BoxF E.w (w.heap.size + 3) cb from q3)
    have HB9 := hid (below_chg HB3.out E.h HB3.out.size (fun b hb => by rcases hU b hb with h | h <;> omega))
    clear hm q2 q3
    go_wp2
    exact bodyPost_ret (results_boxes rfl _ _ (w.heap.size + 2) (w.heap.size + 3) ca cb rfl rfl O2.out O3.out _ Try.underlying26 rfl (by rw [hla]; kernel_rfl) (by rw [hlb]; kernel_rfl)) rfl ⟨by rw [Hr.out, HCA.out, HCB.out]; rfl, HB9.out⟩
  by_cases hm2 : 8 - b.many_ < n
  · have Hr := hid (show moveC a b n = (a, b, 2) by unfold moveC; rw [hoka, hokb, hn, if_pos (show (true && true && true) = true from rfl), if_neg hm, if_pos (by omega)])
    clear hn
    go_enter Try.func23, Try.ntmps23
    go_wp2_with (first | (refine wpList_load_boxg rfl 26 _ rfl (w.heap.size + 1) cb (by exact BB2.out.1) rfl _ Try.underlying26 rfl (by rw [hlb]; kernel_rfl) ?_) | (go_at_call 11; have h2' := HB2; refine (HOB.out _).mono ?_; rintro e w3 ⟨rfl, b3⟩; rw [hokb]; have BA3 := hid (BA2.out.below b3); have BB3 := hid (BB2.out.below b3); have RA3 := hid (RA2.out.below b3); have RB3 := hid (RB2.out.below b3); have HB3 := hid (HB2.out.trans (b3.mono HB2.out.size)); clear b3; have k9a : w3.cell? ⟨w.heap.size, 9, none⟩ = some (.int .i64 a.many_) := (BA3.out.1.2 9 (by omega)).trans HA9.out; have k9b : w3.cell? ⟨w.heap.size + 1, 9, none⟩ = some (.int .i64 b.many_) := (BB3.out.1.2 9 (by omega)).trans HB9'.out) | (refine wpList_load_boxg rfl 26 _ rfl (w.heap.size) ca (by exact BA1.out.1) rfl _ Try.underlying26 rfl (by rw [hla]; kernel_rfl) ?_) | (go_at_call 11; refine (HOA.out _).mono ?_; rintro e w2 ⟨rfl, b2⟩; rw [hoka]; have BA2 := hid (BA1.out.below b2); have BB2 := hid (BB1.out.below b2); have RA2 := hid (RA1.out.below b2); have RB2 := hid (RB1.out.below b2); have HB2 := hid (HB1.out.trans (b2.mono HB1.out.size)); clear b2))
    obtain ⟨CL, hCL⟩ : ∃ l, l = [Go.Chg.box 2 (w.heap.size + 2) ca, Go.Chg.box 3 (w.heap.size + 3) cb] := ⟨_, rfl⟩
    have hU : ∀ b, Go.chgU CL b → b = w.heap.size + 2 ∨ b = w.heap.size + 3 := by
      rintro b ⟨p, hp, hb⟩
      rw [hCL] at hp
      rcases List.mem_cons.1 hp with rfl | hp
      · exact .inl hb
      · obtain rfl := List.mem_singleton.1 hp
        exact .inr hb
    have hNA : ¬ Go.chgU CL (w.heap.size) := fun h => by rcases hU _ h with h | h <;> omega
    have hNB : ¬ Go.chgU CL (w.heap.size + 1) := fun h => by rcases hU _ h with h | h <;> omega
    have hSW : ∀ b, Go.chgU CL b → b < w3.heap.size := fun b h => by
      have h1 := RA3.out.1.1
      have h2 := RB3.out.1.1
      rcases hU b h with h | h <;> omega
    have hdj : CL.Pairwise (fun p q => p.i ≠ q.i ∧ ∀ b, p.S b → ¬ q.S b) := by
      rw [hCL]
      refine List.pairwise_cons.2 ⟨fun q hq => ?_, List.pairwise_singleton _ _⟩
      obtain rfl := List.mem_singleton.1 hq
      exact ⟨(by decide : (2 : Nat) ≠ 3), fun b h1 h2 => by have h1 : b = w.heap.size + 2 := h1; have h2 : b = w.heap.size + 3 := h2; omega⟩
    have hm2 : Go.Chg.box 2 (w.heap.size + 2) ca ∈ CL := by rw [hCL]; exact List.mem_cons_self
    have hm3 : Go.Chg.box 3 (w.heap.size + 3) cb ∈ CL := by rw [hCL]; exact List.mem_cons_of_mem _ List.mem_cons_self
    have hR2 : Go.chgR CL [Go.Rel.none, Go.Rel.none, Go.Rel.val undef, Go.Rel.val undef, Go.Rel.none] 2 = _ := Go.chgR_find [Go.Rel.none, Go.Rel.none, Go.Rel.val undef, Go.Rel.val undef, Go.Rel.none] hdj hm2
    have hR3 : Go.chgR CL [Go.Rel.none, Go.Rel.none, Go.Rel.val undef, Go.Rel.val undef, Go.Rel.none] 3 = _ := Go.chgR_find [Go.Rel.none, Go.Rel.none, Go.Rel.val undef, Go.Rel.val undef, Go.Rel.none] hdj hm3
    have mk1 : ∀ (P : Program) (o : Oper) (a : Act) (w : World) (v : Value), Oper.plainAt P o a w v = Oper.plainUpon w v ((execOp a.eval o).run P w) := fun _ _ _ _ _ => rfl; have mk2 : ∀ (w w' : World) (v u : Value), Oper.plainUpon w v (.ok (.value u) w') = (w' = w ∧ u = v) := fun _ _ _ _ => rfl
    refine Go.wp_region_chgs CL [Go.Rel.none, Go.Rel.none, Go.Rel.val undef, Go.Rel.val undef, Go.Rel.none] [[], [], [], [], []] [.plain, .plain, .change, .change, .plain] (by kernel_rfl) (by kernel_rfl) (by kernel_rfl) (by kernel_rfl) (by kernel_rfl) (by rw [hCL]; kernel_rfl) (by rw [hCL]; kernel_rfl) hSW hdj ?_
    refine Go.wpR_plain5 (Go.clsExtS _ _ hSW) rfl rfl (fun K hK => ?_)
    refine ⟨.agg ca.toArray, fun w8 hC => by
      obtain ⟨E, rfl⟩ := hC
      exact plain_load_mid 26 _ rfl (w.heap.size) 0 rfl ca _ (BA3.out.chg E.h hNA).1.range Try.underlying26 rfl (by rw [hla]; kernel_rfl), ?_⟩
    go_simp
    refine hK _ ?_
    clear hK K
    refine Go.wpR_plain5 (Go.clsExtS _ _ hSW) rfl rfl (fun K hK => ?_)
    refine ⟨.agg cb.toArray, fun w8 hC => by
      obtain ⟨E, rfl⟩ := hC
      exact plain_load_mid 26 _ rfl (w.heap.size + 1) 0 rfl cb _ (BB3.out.chg E.h hNB).1.range Try.underlying26 rfl (by rw [hlb]; kernel_rfl), ?_⟩
    go_simp
    refine hK _ ?_
    clear hK K
    refine Go.wpR_putbox _ _ _ (w.heap.size + 2) [.int .i64 0, .int .i64 0, .int .i64 0, .int .i64 0, .int .i64 0, .int .i64 0, .int .i64 0, .int .i64 0, .int .i64 0, .int .i64 0] ca hdj hm2 RA3.out rfl rfl rfl (by rw [hla]; rfl) (by rw [hla]; kernel_rfl) honea rfl rfl rfl (fun lo5 hi5 => ?_)
    refine Go.wpR_putbox _ _ _ (w.heap.size + 3) [.int .i64 0, .int .i64 0, .int .i64 0, .int .i64 0, .int .i64 0, .int .i64 0, .int .i64 0, .int .i64 0, .int .i64 0, .int .i64 0] cb hdj hm3 RB3.out rfl rfl rfl (by rw [hlb]; rfl) (by rw [hlb]; kernel_rfl) honeb rfl rfl rfl (fun lo5 hi5 => ?_)
    (refine Go.wpR_plain5 (Go.clsExtS _ _ hSW) rfl rfl (fun K hK => ?_); go_simp; refine hK _ ?_; clear hK K)
    refine Go.wpR_nil5 ?_
    intro E hm
    have q2 := (hm.one 2 _ _ _ rfl).1
    rw [hR2] at q2
    have q3 := (hm.one 3 _ _ _ rfl).1
    rw [hR3] at q3
    have O2 := hid (show BoxF E.w (w.heap.size + 2) ca from q2)
    have O3 := hid (show BoxF E.w (w.heap.size + 3) cb from q3)
    have HB9 := hid (below_chg HB3.out E.h HB3.out.size (fun b hb => by rcases hU b hb with h | h <;> omega))
    clear hm q2 q3
    go_wp2
    exact bodyPost_ret (results_boxes rfl _ _ (w.heap.size + 2) (w.heap.size + 3) ca cb rfl rfl O2.out O3.out _ Try.underlying26 rfl (by rw [hla]; kernel_rfl) (by rw [hlb]; kernel_rfl)) rfl ⟨by rw [Hr.out, HCA.out, HCB.out]; rfl, HB9.out⟩
  obtain ⟨N, hN⟩ : ∃ N : Nat, n = (N : Int) := ⟨n.toNat, by omega⟩
  subst hN
  have hNb : N ≤ 8 := by omega
  have HMA := hid (show ((N - 0 : Nat) : Int) ≤ a.many_ by omega)
  have HMB := hid (show b.many_ + ((N - 0 : Nat) : Int) ≤ 8 by omega)
  have Hr := hid (show moveC a b N = ((moveN N a b).1, (moveN N a b).2, 0) by unfold moveC; rw [hoka, hokb, hn, if_pos (show (true && true && true) = true from rfl), if_neg hm, if_neg (by omega), Int.toNat_natCast])
  have hf1 : decide ((N : Int) < 0) = false := by simp
  have hf2 : decide (8 < (N : Int)) = false := by simp; omega
  have hf3 : decide (a.many_ < (N : Int)) = false := by simp; omega
  have hf4 : decide (8 - b.many_ < (N : Int)) = false := by simp; omega
  clear hn
  go_enter Try.func23, Try.ntmps23
  go_wp2_with (first | (refine wpList_load_boxg rfl 26 _ rfl (w.heap.size + 1) cb (by exact BB2.out.1) rfl _ Try.underlying26 rfl (by rw [hlb]; kernel_rfl) ?_) | (go_at_call 11; have h2' := HB2; refine (HOB.out _).mono ?_; rintro e w3 ⟨rfl, b3⟩; rw [hokb]; have BA3 := hid (BA2.out.below b3); have BB3 := hid (BB2.out.below b3); have RA3 := hid (RA2.out.below b3); have RB3 := hid (RB2.out.below b3); have HB3 := hid (HB2.out.trans (b3.mono HB2.out.size)); clear b3; have k9a : w3.cell? ⟨w.heap.size, 9, none⟩ = some (.int .i64 a.many_) := (BA3.out.1.2 9 (by omega)).trans HA9.out; have k9b : w3.cell? ⟨w.heap.size + 1, 9, none⟩ = some (.int .i64 b.many_) := (BB3.out.1.2 9 (by omega)).trans HB9'.out) | (refine wpList_load_boxg rfl 26 _ rfl (w.heap.size) ca (by exact BA1.out.1) rfl _ Try.underlying26 rfl (by rw [hla]; kernel_rfl) ?_) | (go_at_call 11; refine (HOA.out _).mono ?_; rintro e w2 ⟨rfl, b2⟩; rw [hoka]; have BA2 := hid (BA1.out.below b2); have BB2 := hid (BB1.out.below b2); have RA2 := hid (RA1.out.below b2); have RB2 := hid (RB1.out.below b2); have HB2 := hid (HB1.out.trans (b2.mono HB1.out.size)); clear b2))
  have BA9 := hid (show BoxF w3 w.heap.size a.enc by rw [HCA.out]; exact BA3.out)
  have BB9 := hid (show BoxF w3 (w.heap.size + 1) b.enc by rw [HCB.out]; exact BB3.out)
  have HOKRA := hid hoka
  have HOKRB := hid hokb
  clear hoka hokb hla2 hlb2 hma hmb hm hm2 hn0 hn8 BA1 BA2 BB1 BB2 RA1 RA2 RB1 RB2 HB1 HB2 BA3 BB3 HOA HOB k9a k9b hla hlb honea honeb HA9 HB9' HCA HCB
  go_loopw [44] (fun i wr => ∃ (j : Nat) (qa qb : RingD), j ≤ N ∧ i = .int .i64 j ∧ Hid (qa.cells_.length = 8) ∧ Hid (qb.cells_.length = 8) ∧ Hid (ringOk qa = true) ∧ Hid (ringOk qb = true) ∧ Hid (((N - j : Nat) : Int) ≤ qa.many_) ∧ Hid (qb.many_ + ((N - j : Nat) : Int) ≤ 8) ∧ Hid (moveN (N - j) qa qb = moveN N a b) ∧ Hid (BoxF wr w.heap.size qa.enc) ∧ Hid (BoxF wr (w.heap.size + 1) qb.enc) ∧ Hid (BoxF wr (w.heap.size + 2) [.int .i64 0, .int .i64 0, .int .i64 0, .int .i64 0, .int .i64 0, .int .i64 0, .int .i64 0, .int .i64 0, .int .i64 0, .int .i64 0]) ∧ Hid (BoxF wr (w.heap.size + 3) [.int .i64 0, .int .i64 0, .int .i64 0, .int .i64 0, .int .i64 0, .int .i64 0, .int .i64 0, .int .i64 0, .int .i64 0, .int .i64 0]) ∧ Hid (Below w.heap.size w wr)) (fun i _ => N - (intOf i).toNat)
  case atStart => exact ⟨0, a, b, by omega, rfl, HLA, HLB, HOKRA, HOKRB, HMA, HMB, hid rfl, BA9, BB9, RA3, RB3, HB3⟩
  case round =>
    obtain ⟨j, qa, qb, hj, rfl, HAL, HBL, HAO, HBO, HAM, HBM, HMT, BA, BB, RA, RB, HBQ⟩ := hrel
    have hla := ring_len HAL.out
    have hlb := ring_len HBL.out
    have honea := ring_one qa
    have honeb := ring_one qb
    clear BA9 BB9 RA3 RB3 HB3 HMA HMB HOKRA HOKRB HLA HLB
    by_cases hjN : j < N
    · have hjN2 : (j : Int) < (N : Int) := by omega
      have hfa := (ringOk_iff qa).1 HAO.out
      have hfb := (ringOk_iff qb).1 HBO.out
      have hm0 : qa.many_ ≠ 0 := by have := HAM.out; omega
      have hm8 : qb.many_ ≠ 8 := by have := HBM.out; omega
      obtain ⟨F, hF⟩ : ∃ F : Nat, qa.from_ = (F : Int) := ⟨qa.from_.toNat, by omega⟩
      obtain ⟨M, hM⟩ : ∃ M : Nat, qa.many_ = (M : Int) := ⟨qa.many_.toNat, by omega⟩
      obtain ⟨F2, hF2⟩ : ∃ F : Nat, qb.from_ = (F : Int) := ⟨qb.from_.toNat, by omega⟩
      obtain ⟨M2, hM2⟩ : ∃ M : Nat, qb.many_ = (M : Int) := ⟨qb.many_.toNat, by omega⟩
      have HTO := hid (takeR_ok HAO.out HAL.out hm0)
      have HTL := hid (takeR_len HAL.out)
      have hxv := take_val HAO.out hm0
      have HTAKE := hid (fun (W : World) => impl_take0 qa HAL.out F M hF hM (by omega) (by omega) w.heap.size W)
      have HMT2 := HMT.out
      rw [show N - j = (N - (j+1)) + 1 by omega, moveN] at HMT2
      obtain ⟨x, hx⟩ : ∃ x, rAt qa.cells_ (idx8 qa.from_ 0) = x := ⟨_, rfl⟩
      rw [hx] at HTAKE hxv HMT2
      have HPUT := hid (fun (W : World) => impl_put0 qb HBL.out F2 M2 hF2 hM2 (by omega) (by omega) x (w.heap.size + 1) W)
      have HPO := hid (putR_ok HBO.out HBL.out hm8 hxv)
      have HPL := hid (putR_len HBL.out x)
      have HTM := hid (show ((N - (j+1) : Nat) : Int) ≤ (takeR qa).many_ by show _ ≤ qa.many_ - 1; have := HAM.out; omega)
      have HPM := hid (show (putR qb x).many_ + ((N - (j+1) : Nat) : Int) ≤ 8 by show qb.many_ + 1 + _ ≤ 8; have := HBM.out; omega)
      have HMT3 := hid HMT2
      clear hfa hfb hm0 hm8 hF hM hF2 hM2 HMT2 HMT hx hxv HAM HBM HAO HBO
      go_wp2_with (first | (go_at_call 33; refine (HTAKE.out _ BA.out).mono ?_; rintro e w5 ⟨rfl, o5, C5⟩; have A5 := hid o5; have B5 := hid (BB.out.chg C5 (by omega)); have P5 := hid (RA.out.chg C5 (by omega)); have Q5 := hid (RB.out.chg C5 (by omega)); have HB5 := hid (below_chg HBQ.out C5 HBQ.out.size (fun b hb => by omega)); clear o5 C5) | (go_at_call 31; refine (HPUT.out _ B5.out).mono ?_; rintro e w6 ⟨rfl, o6, C6⟩; have B6 := hid o6; have A6 := hid (A5.out.chg C6 (by omega)); have P6 := hid (P5.out.chg C6 (by omega)); have Q6 := hid (Q5.out.chg C6 (by omega)); have HB6 := hid (below_chg HB5.out C6 HB5.out.size (fun b hb => by omega)); clear o6 C6))
      go_roundw
      case rel => exact ⟨j+1, _, _, by omega, by go_num, HTL, HPL, HTO, HPO, HTM, HPM, HMT3, A6, B6, P6, Q6, HB6⟩
      case measure => simp [intOf]; omega
    · obtain rfl : j = N := by omega
      have HX := hid (show moveN j a b = (qa, qb) by rw [← HMT.out, Nat.sub_self]; rfl)
      obtain ⟨ca, hca⟩ : ∃ Y, qa.enc = Y := ⟨_, rfl⟩
      obtain ⟨cb, hcb⟩ : ∃ Y, qb.enc = Y := ⟨_, rfl⟩
      rw [hca] at BA hla honea
      rw [hcb] at BB hlb honeb
      have HCA := hid hca
      have HCB := hid hcb
      have ha2 : ca.toArray.size = 10 := by rw [List.size_toArray, hla]
      have hb2 : cb.toArray.size = 10 := by rw [List.size_toArray, hlb]
      clear hca hcb HMT HAM HBM HAO HBO HAL HBL
      go_wp2
      obtain ⟨CL, hCL⟩ : ∃ l, l = [Go.Chg.box 2 (w.heap.size + 2) ca, Go.Chg.box 3 (w.heap.size + 3) cb] := ⟨_, rfl⟩
      have hU : ∀ b, Go.chgU CL b → b = w.heap.size + 2 ∨ b = w.heap.size + 3 := by
        rintro b ⟨p, hp, hb⟩
        rw [hCL] at hp
        rcases List.mem_cons.1 hp with rfl | hp
        · exact .inl hb
        · obtain rfl := List.mem_singleton.1 hp
          exact .inr hb
      have hNA : ¬ Go.chgU CL (w.heap.size) := fun h => by rcases hU _ h with h | h <;> omega
      have hNB : ¬ Go.chgU CL (w.heap.size + 1) := fun h => by rcases hU _ h with h | h <;> omega
      have hSW : ∀ b, Go.chgU CL b → b < wr.heap.size := fun b h => by
        have h1 := RA.out.1.1
        have h2 := RB.out.1.1
        rcases hU b h with h | h <;> omega
      have hdj : CL.Pairwise (fun p q => p.i ≠ q.i ∧ ∀ b, p.S b → ¬ q.S b) := by
        rw [hCL]
        refine List.pairwise_cons.2 ⟨fun q hq => ?_, List.pairwise_singleton _ _⟩
        obtain rfl := List.mem_singleton.1 hq
        exact ⟨(by decide : (2 : Nat) ≠ 3), fun b h1 h2 => by have h1 : b = w.heap.size + 2 := h1; have h2 : b = w.heap.size + 3 := h2; omega⟩
      have hm2 : Go.Chg.box 2 (w.heap.size + 2) ca ∈ CL := by rw [hCL]; exact List.mem_cons_self
      have hm3 : Go.Chg.box 3 (w.heap.size + 3) cb ∈ CL := by rw [hCL]; exact List.mem_cons_of_mem _ List.mem_cons_self
      have hR2 : Go.chgR CL [Go.Rel.none, Go.Rel.none, Go.Rel.val undef, Go.Rel.val undef, Go.Rel.none] 2 = _ := Go.chgR_find [Go.Rel.none, Go.Rel.none, Go.Rel.val undef, Go.Rel.val undef, Go.Rel.none] hdj hm2
      have hR3 : Go.chgR CL [Go.Rel.none, Go.Rel.none, Go.Rel.val undef, Go.Rel.val undef, Go.Rel.none] 3 = _ := Go.chgR_find [Go.Rel.none, Go.Rel.none, Go.Rel.val undef, Go.Rel.val undef, Go.Rel.none] hdj hm3
      have mk1 : ∀ (P : Program) (o : Oper) (a : Act) (w : World) (v : Value), Oper.plainAt P o a w v = Oper.plainUpon w v ((execOp a.eval o).run P w) := fun _ _ _ _ _ => rfl; have mk2 : ∀ (w w' : World) (v u : Value), Oper.plainUpon w v (.ok (.value u) w') = (w' = w ∧ u = v) := fun _ _ _ _ => rfl
      refine Go.wp_region_chgs CL [Go.Rel.none, Go.Rel.none, Go.Rel.val undef, Go.Rel.val undef, Go.Rel.none] [[], [], [], [], []] [.plain, .plain, .change, .change, .plain] (by kernel_rfl) (by kernel_rfl) (by kernel_rfl) (by kernel_rfl) (by kernel_rfl) (by rw [hCL]; kernel_rfl) (by rw [hCL]; kernel_rfl) hSW hdj ?_
      refine Go.wpR_plain5 (Go.clsExtS _ _ hSW) rfl rfl (fun K hK => ?_)
      refine ⟨.agg ca.toArray, fun w8 hC => by
        obtain ⟨E, rfl⟩ := hC
        exact plain_load_mid 26 _ rfl (w.heap.size) 0 rfl ca _ (BA.out.chg E.h hNA).1.range Try.underlying26 rfl (by rw [hla]; kernel_rfl), ?_⟩
      go_simp
      refine hK _ ?_
      clear hK K
      refine Go.wpR_plain5 (Go.clsExtS _ _ hSW) rfl rfl (fun K hK => ?_)
      refine ⟨.agg cb.toArray, fun w8 hC => by
        obtain ⟨E, rfl⟩ := hC
        exact plain_load_mid 26 _ rfl (w.heap.size + 1) 0 rfl cb _ (BB.out.chg E.h hNB).1.range Try.underlying26 rfl (by rw [hlb]; kernel_rfl), ?_⟩
      go_simp
      refine hK _ ?_
      clear hK K
      refine Go.wpR_putbox _ _ _ (w.heap.size + 2) [.int .i64 0, .int .i64 0, .int .i64 0, .int .i64 0, .int .i64 0, .int .i64 0, .int .i64 0, .int .i64 0, .int .i64 0, .int .i64 0] ca hdj hm2 RA.out rfl rfl rfl (by rw [hla]; rfl) (by rw [hla]; kernel_rfl) honea rfl rfl rfl (fun lo5 hi5 => ?_)
      refine Go.wpR_putbox _ _ _ (w.heap.size + 3) [.int .i64 0, .int .i64 0, .int .i64 0, .int .i64 0, .int .i64 0, .int .i64 0, .int .i64 0, .int .i64 0, .int .i64 0, .int .i64 0] cb hdj hm3 RB.out rfl rfl rfl (by rw [hlb]; rfl) (by rw [hlb]; kernel_rfl) honeb rfl rfl rfl (fun lo5 hi5 => ?_)
      (refine Go.wpR_plain5 (Go.clsExtS _ _ hSW) rfl rfl (fun K hK => ?_); go_simp; refine hK _ ?_; clear hK K)
      refine Go.wpR_nil5 ?_
      intro E hm
      have q2 := (hm.one 2 _ _ _ rfl).1
      rw [hR2] at q2
      have q3 := (hm.one 3 _ _ _ rfl).1
      rw [hR3] at q3
      have O2 := hid (show BoxF E.w (w.heap.size + 2) ca from q2)
      have O3 := hid (show BoxF E.w (w.heap.size + 3) cb from q3)
      have HB9 := hid (below_chg HBQ.out E.h HBQ.out.size (fun b hb => by rcases hU b hb with h | h <;> omega))
      clear hm q2 q3
      go_wp2
      exact bodyPost_ret (results_boxes rfl _ _ (w.heap.size + 2) (w.heap.size + 3) ca cb rfl rfl O2.out O3.out _ Try.underlying26 rfl (by rw [hla]; kernel_rfl) (by rw [hlb]; kernel_rfl)) rfl ⟨by rw [Hr.out, HX.out, HCA.out, HCB.out]; rfl, HB9.out⟩
end Go.Proofs.Ytilbmclhnlkkmaa
