/- Chapter 14's model: RingPut, RingTake. (printed by tools/mk_s14.py) -/
import Derived.Test.YtilbmclhnlkkmaaS14
import Derived.Test.YtilbmclhnlkkmaaMid2
import Derived.Deep.Cut
namespace Go.Proofs.Ytilbmclhnlkkmaa
set_option maxRecDepth 100000
open Go.RowKit Go.Proofs Go.Own
open Go Go.BigFrame
set_option linter.unusedVariables false
set_option linter.unusedSimpArgs false
theorem zero_run {P : Program} {t : TypeId} {v : Value} (w : World) (h : (P.info? t).bind (·.zero) = some v) : (zeroValue t).run P w = .ok v w := by
  cases e : P.info? t with
  | none => rw [e] at h; cases h
  | some i =>
    rw [e] at h
    have h2 : i.zero = some v := h
    simp [zeroValue, typeInfo, e, h2]
theorem results_box2 {P : Program} {fn : Func} {p q : Tmp} {ty : TypeId} (h : fn.results = #[.cell p ty, .tmp q]) (tmps : Array Value) (w : World) (b : Nat) (cs : List Value) (hp : tmps.getD p undef = .pointer (some ⟨b, 0, none⟩)) (hb : BoxF w b cs) (d : TypeDesc) (hu : P.underlying ty = some d) (hd : d.isRow = true) (hi : (P.info? ty).map (·.size) = some cs.length) :
    (results fn tmps).run P w = .ok (.tuple #[.agg cs.toArray, tmps.getD q undef]) w := by
  have hr := run_loadVar_mid (P := P) w b 0 ty cs d hb.1.range hu hd hi
  have hp2 : tmps[p]?.getD undef = .pointer (some ⟨b, 0, none⟩) := by simpa using hp
  simp [results, h, hp2, asAddr, hr]
theorem ring_set {L : List Int} {f m : Int} (k : Nat) (h : k < L.length) (v : Int) : ([] ++ L.flatMap encI ++ [.int .i64 f, .int .i64 m] : List Value).set k (.int .i64 v) = [] ++ (L.set k v).flatMap encI ++ [.int .i64 f, .int .i64 m] := by
  rw [List.nil_append, List.set_append_left _ _ (by rw [ints_len]; exact h), ints_set]; rfl
theorem ring_set_from {L : List Int} {f m : Int} (h : L.length = 8) (v : Int) : ([] ++ L.flatMap encI ++ [.int .i64 f, .int .i64 m] : List Value).set 8 (.int .i64 v) = [] ++ L.flatMap encI ++ [.int .i64 v, .int .i64 m] := by
  rw [List.nil_append, List.set_append_right _ _ (by rw [ints_len]; omega), ints_len, h]; rfl
theorem ring_set_many {L : List Int} {f m : Int} (h : L.length = 8) (v : Int) : ([] ++ L.flatMap encI ++ [.int .i64 f, .int .i64 m] : List Value).set 9 (.int .i64 v) = [] ++ L.flatMap encI ++ [.int .i64 f, .int .i64 v] := by
  rw [List.nil_append, List.set_append_right _ _ (by rw [ints_len]; omega), ints_len, h]; rfl
theorem ring3_len {L : List Int} {f m : Int} (h : L.length = 8) : ([] ++ L.flatMap encI ++ [.int .i64 f, .int .i64 m] : List Value).length = 10 := by
  simp only [List.length_append, List.length_nil, ints_len, h, List.length_cons]
set_option maxHeartbeats 8000000 in
theorem spec_RingPut0 (r : RingD) (hL : r.cells_.length = 8) (v : Int) (w : World) :
    Calls Try.prog 12 #[.agg r.enc.toArray, .int .i64 v] w fun e w' => e = .returned (.tuple #[.agg (ringPutC r v).1.enc.toArray, .int .i64 (ringPutC r v).2]) ∧ Below w.heap.size w w' := by
  have hone := ring_one r
  have hl := ring_len hL
  have hl2 : r.enc.toArray.size = 10 := by rw [List.size_toArray, hl]
  have HE := hid (show r.enc = [] ++ r.cells_.flatMap encI ++ [.int .i64 r.from_, .int .i64 r.many_] from rfl)
  have HL := hid hL
  have HE8 := hid (show r.enc[8]? = some (.int .i64 r.from_) by rw [HE.out, List.nil_append, List.getElem?_append_right (by rw [ints_len]; omega), ints_len, hL]; rfl)
  have HE9 := hid (show r.enc[9]? = some (.int .i64 r.many_) by rw [HE.out, List.nil_append, List.getElem?_append_right (by rw [ints_len]; omega), ints_len, hL]; rfl)
  have HOK0 := hid (fun (W : World) => spec_RingOk0 r hL W)
  generalize hce : r.enc = ce at *
  obtain ⟨W1, hW1⟩ : ∃ X, (w.alloc (.cells ce.toArray 26)).alloc (.cells #[.int .i64 0, .int .i64 0, .int .i64 0, .int .i64 0, .int .i64 0, .int .i64 0, .int .i64 0, .int .i64 0, .int .i64 0, .int .i64 0] 26) = X := ⟨_, rfl⟩
  have hB1 : Below w.heap.size w W1 := by rw [← hW1]; exact ((Below.refl _ _).alloc (Nat.le_refl _) _).alloc (by simp) _
  have B1 := hid (show BoxF W1 w.heap.size ce by rw [← hW1]; exact (BoxF.alloc w ce.toArray 26).below ((Below.refl _ _).alloc (Nat.le_refl _) _))
  have R1 : Hid (BoxF W1 (w.heap.size + 1) [.int .i64 0, .int .i64 0, .int .i64 0, .int .i64 0, .int .i64 0, .int .i64 0, .int .i64 0, .int .i64 0, .int .i64 0, .int .i64 0]) := by
    rw [← hW1]
    have z := BoxF.alloc (w.alloc (.cells ce.toArray 26)) #[.int .i64 0, .int .i64 0, .int .i64 0, .int .i64 0, .int .i64 0, .int .i64 0, .int .i64 0, .int .i64 0, .int .i64 0, .int .i64 0] 26
    rw [show (w.alloc (.cells ce.toArray 26)).heap.size = w.heap.size + 1 by simp] at z
    exact hid z
  have HB1 := hid hB1
  have HCE := hid hce
  have HW1 := hid hW1
  have HOK := hid (HOK0.out W1)
  have hz : ∀ w : World, (zeroValue 26).run Try.prog w = .ok (.agg #[.int .i64 0, .int .i64 0, .int .i64 0, .int .i64 0, .int .i64 0, .int .i64 0, .int .i64 0, .int .i64 0, .int .i64 0, .int .i64 0]) w := fun w => zero_run w (by kernel_rfl)
  clear hL hB1 hce hW1
  cases hok : ringOk r with
  | false =>
    have Hr := hid (show ringPutC r v = (r, 1) by simp [ringPutC, hok])
    go_enter Try.func12, Try.ntmps12
    go_upto_region 1 with fail
    rw [HW1.out]
    go_wp2_with (first | (refine wpList_load_box rfl 26 _ rfl w.heap.size ce (by exact B1.out.1) rfl _ Try.underlying26 rfl (by rw [hl]; kernel_rfl) ?_) | (refine wpList_load_box rfl 26 _ rfl w.heap.size ce (by exact B2.out.1) rfl _ Try.underlying26 rfl (by rw [hl]; kernel_rfl) ?_) | (refine wpList_store_box rfl 26 _ _ rfl (w.heap.size + 1) [.int .i64 0, .int .i64 0, .int .i64 0, .int .i64 0, .int .i64 0, .int .i64 0, .int .i64 0, .int .i64 0, .int .i64 0, .int .i64 0] ce R2.out rfl rfl (by rw [hl]; rfl) (by rw [hl]; kernel_rfl) hone ?_) | (go_at_call 9; refine HOK.out.mono ?_; rintro e w2 ⟨rfl, b2⟩; rw [hok]; have B2 := hid (B1.out.below b2); have R2 := hid (R1.out.below b2); have HB2 := hid (HB1.out.trans (b2.mono HB1.out.size)); have k8 : w2.cell? ⟨w.heap.size, 8, none⟩ = some (.int .i64 r.from_) := (B2.out.1.2 8 (by omega)).trans HE8.out; have k9 : w2.cell? ⟨w.heap.size, 9, none⟩ = some (.int .i64 r.many_) := (B2.out.1.2 9 (by omega)).trans HE9.out; clear b2))
    intro w9 o9 C9
    have O9 := hid o9
    have HB9 := hid (below_chg HB2.out C9 HB2.out.size (fun b hb => by omega))
    clear o9 C9
    go_wp2
    exact bodyPost_ret (results_box2 rfl _ _ (w.heap.size + 1) ce rfl O9.out _ Try.underlying26 rfl (by rw [hl]; kernel_rfl)) rfl ⟨by rw [Hr.out, HCE.out]; rfl, HB9.out⟩
  | true =>
  cases hv : isVal v with
  | false =>
    have Hr := hid (show ringPutC r v = (r, 1) by simp [ringPutC, hv])
    go_enter Try.func12, Try.ntmps12
    go_upto_region 1 with fail
    rw [HW1.out]
    go_wp2_with (first | (refine wpList_load_box rfl 26 _ rfl w.heap.size ce (by exact B1.out.1) rfl _ Try.underlying26 rfl (by rw [hl]; kernel_rfl) ?_) | (refine wpList_load_box rfl 26 _ rfl w.heap.size ce (by exact B2.out.1) rfl _ Try.underlying26 rfl (by rw [hl]; kernel_rfl) ?_) | (refine wpList_store_box rfl 26 _ _ rfl (w.heap.size + 1) [.int .i64 0, .int .i64 0, .int .i64 0, .int .i64 0, .int .i64 0, .int .i64 0, .int .i64 0, .int .i64 0, .int .i64 0, .int .i64 0] ce R2.out rfl rfl (by rw [hl]; rfl) (by rw [hl]; kernel_rfl) hone ?_) | (go_at_call 9; refine HOK.out.mono ?_; rintro e w2 ⟨rfl, b2⟩; rw [hok]; have B2 := hid (B1.out.below b2); have R2 := hid (R1.out.below b2); have HB2 := hid (HB1.out.trans (b2.mono HB1.out.size)); have k8 : w2.cell? ⟨w.heap.size, 8, none⟩ = some (.int .i64 r.from_) := (B2.out.1.2 8 (by omega)).trans HE8.out; have k9 : w2.cell? ⟨w.heap.size, 9, none⟩ = some (.int .i64 r.many_) := (B2.out.1.2 9 (by omega)).trans HE9.out; clear b2) | (go_at_call 27; refine (spec_l1ValueIs _ _ _ (by assumption)).mono ?_; rintro e w' ⟨rfl, rfl⟩))
    intro w9 o9 C9
    have O9 := hid o9
    have HB9 := hid (below_chg HB2.out C9 HB2.out.size (fun b hb => by omega))
    clear o9 C9
    go_wp2
    exact bodyPost_ret (results_box2 rfl _ _ (w.heap.size + 1) ce rfl O9.out _ Try.underlying26 rfl (by rw [hl]; kernel_rfl)) rfl ⟨by rw [Hr.out, HCE.out]; rfl, HB9.out⟩
  | true =>
  have hfm := (ringOk_iff r).1 hok
  have hm0 := hfm.2.1
  by_cases hm8 : r.many_ = 8
  · have Hr := hid (show ringPutC r v = (r, 2) by simp [ringPutC, hok, hv, hm8])
    clear hfm hm0
    go_enter Try.func12, Try.ntmps12
    go_upto_region 1 with fail
    rw [HW1.out]
    go_wp2_with (first | (refine wpList_load_box rfl 26 _ rfl w.heap.size ce (by exact B1.out.1) rfl _ Try.underlying26 rfl (by rw [hl]; kernel_rfl) ?_) | (refine wpList_load_box rfl 26 _ rfl w.heap.size ce (by exact B2.out.1) rfl _ Try.underlying26 rfl (by rw [hl]; kernel_rfl) ?_) | (refine wpList_store_box rfl 26 _ _ rfl (w.heap.size + 1) [.int .i64 0, .int .i64 0, .int .i64 0, .int .i64 0, .int .i64 0, .int .i64 0, .int .i64 0, .int .i64 0, .int .i64 0, .int .i64 0] ce R2.out rfl rfl (by rw [hl]; rfl) (by rw [hl]; kernel_rfl) hone ?_) | (go_at_call 9; refine HOK.out.mono ?_; rintro e w2 ⟨rfl, b2⟩; rw [hok]; have B2 := hid (B1.out.below b2); have R2 := hid (R1.out.below b2); have HB2 := hid (HB1.out.trans (b2.mono HB1.out.size)); have k8 : w2.cell? ⟨w.heap.size, 8, none⟩ = some (.int .i64 r.from_) := (B2.out.1.2 8 (by omega)).trans HE8.out; have k9 : w2.cell? ⟨w.heap.size, 9, none⟩ = some (.int .i64 r.many_) := (B2.out.1.2 9 (by omega)).trans HE9.out; clear b2) | (go_at_call 27; refine (spec_l1ValueIs _ _ _ (by assumption)).mono ?_; rintro e w' ⟨rfl, rfl⟩))
    intro w9 o9 C9
    have O9 := hid o9
    have HB9 := hid (below_chg HB2.out C9 HB2.out.size (fun b hb => by omega))
    clear o9 C9
    go_wp2
    exact bodyPost_ret (results_box2 rfl _ _ (w.heap.size + 1) ce rfl O9.out _ Try.underlying26 rfl (by rw [hl]; kernel_rfl)) rfl ⟨by rw [Hr.out, HCE.out]; rfl, HB9.out⟩
  · obtain ⟨F, hF⟩ : ∃ F : Nat, r.from_ = (F : Int) := ⟨r.from_.toNat, by omega⟩
    obtain ⟨M, hM⟩ : ∃ M : Nat, r.many_ = (M : Int) := ⟨r.many_.toNat, by omega⟩
    have hFb : F ≤ 7 := by omega
    have hMb : M ≤ 7 := by omega
    have Hr := hid (show ringPutC r v = (⟨r.cells_.set (idx8 F M) v, F, (M : Int) + 1⟩, 0) by
      unfold ringPutC putR; rw [hok, hv, if_pos (show (true && true) = true from rfl), if_neg hm8, hF, hM, Int.toNat_natCast])
    rw [hF] at HE HE8
    rw [hM] at HE HE9
    have hrem := idx8_rem F M
    have hil := idx8_lt (F : Int) M
    have HIL := hid (show idx8 (F : Int) M < r.cells_.length by rw [HL.out]; exact hil)
    have hi0 : (0 : Int) ≤ ((idx8 (F : Int) M : Nat) : Int) := by omega
    have hi8 : ((idx8 (F : Int) M : Nat) : Int) < 8 := by omega
    have HS1 := hid (ring_set (f := F) (m := M) (idx8 F M) HIL.out v)
    have hm82 : ¬ (M : Int) = 8 := by omega
    have HF := hid hF
    have HM := hid hM
    clear hfm hm0 hm8
    obtain ⟨ix, hix⟩ : ∃ i, idx8 (F : Int) M = i := ⟨_, rfl⟩
    rw [hix] at hrem hil HIL hi0 hi8 HS1 Hr
    clear hix
    go_enter Try.func12, Try.ntmps12
    go_upto_region 1 with fail
    rw [HW1.out]
    rw [hF, hM] at *
    go_wp2_with (first | (go_at_call 9; refine HOK.out.mono ?_; rintro e w2 ⟨rfl, b2⟩; rw [hok]; have B2 := hid (B1.out.below b2); have R2 := hid (R1.out.below b2); have HB2 := hid (HB1.out.trans (b2.mono HB1.out.size)); have k8 : w2.cell? ⟨w.heap.size, 8, none⟩ = some (.int .i64 F) := (B2.out.1.2 8 (by omega)).trans HE8.out; have k9 : w2.cell? ⟨w.heap.size, 9, none⟩ = some (.int .i64 M) := (B2.out.1.2 9 (by omega)).trans HE9.out; clear b2) | (go_at_call 27; refine (spec_l1ValueIs _ _ _ (by assumption)).mono ?_; rintro e w' ⟨rfl, rfl⟩) | (refine wpList_load_box rfl 26 _ rfl w.heap.size ce (by exact B1.out.1) rfl _ Try.underlying26 rfl (by rw [hl]; kernel_rfl) ?_) | (refine wpList_store_cell rfl 3 _ _ rfl w.heap.size ix ce (.int .i64 v) B2.out rfl rfl (by omega) (by kernel_rfl) rfl rfl ?_))
    intro w5 o5 C5
    have B5 := hid (show BoxF w5 w.heap.size ([] ++ (r.cells_.set ix v).flatMap encI ++ [.int .i64 F, .int .i64 M]) by rw [← HS1.out, ← HE.out]; exact o5)
    have R5 := hid (R2.out.chg C5 (by omega))
    have HB5 := hid (below_chg HB2.out C5 HB2.out.size (fun b hb => by omega))
    have hl5 := ring3_len (L := r.cells_.set ix v) (f := F) (m := M) (by rw [List.length_set]; exact HL.out)
    have HS2 := hid (ring_set_many (L := r.cells_.set ix v) (f := F) (m := M) (by rw [List.length_set]; exact HL.out) ((M : Int) + 1))
    have h59 : ([] ++ (r.cells_.set ix v).flatMap encI ++ [.int .i64 F, .int .i64 M] : List Value)[9]? = some (.int .i64 M) := by
      rw [List.nil_append, List.getElem?_append_right (by rw [ints_len, List.length_set, HL.out]; omega), ints_len, List.length_set, HL.out]; rfl
    obtain ⟨c5, hc5⟩ : ∃ Y : List Value, [] ++ (r.cells_.set ix v).flatMap encI ++ [.int .i64 F, .int .i64 M] = Y := ⟨_, rfl⟩
    rw [hc5] at B5 hl5 HS2 h59
    have k59 : w5.cell? ⟨w.heap.size, 9, none⟩ = some (.int .i64 M) := (B5.out.1.2 9 (by omega)).trans h59
    clear o5 C5 hc5 h59 k8 k9
    go_wp2_with (refine wpList_store_cell rfl 3 _ _ rfl w.heap.size 9 c5 (.int .i64 ((M : Int) + 1)) B5.out rfl rfl (by omega) (by kernel_rfl) rfl rfl ?_)
    intro w6 o6 C6
    have A6 := hid (show BoxF w6 w.heap.size (RingD.enc ⟨r.cells_.set ix v, F, (M : Int) + 1⟩) by rw [HS2.out] at o6; exact o6)
    have R6 := hid (R5.out.chg C6 (by omega))
    have HB6 := hid (below_chg HB5.out C6 HB5.out.size (fun b hb => by omega))
    have hl9 := ring_len (r := ⟨r.cells_.set ix v, F, (M : Int) + 1⟩) (by show (List.set _ _ _).length = 8; simp [HL.out])
    have hone9 := ring_one ⟨r.cells_.set ix v, F, (M : Int) + 1⟩
    clear o6 C6 B5 R5 HB5 HS2 k59
    obtain ⟨cf, hcf⟩ : ∃ Y, RingD.enc ⟨r.cells_.set ix v, F, (M : Int) + 1⟩ = Y := ⟨_, rfl⟩
    rw [hcf] at A6 hl9 hone9
    have HCF := hid hcf
    clear hcf
    go_wp2_with (first | (refine wpList_load_box rfl 26 _ rfl w.heap.size cf (by exact A6.out.1) rfl _ Try.underlying26 rfl (by rw [hl9]; kernel_rfl) ?_) | (refine wpList_store_box rfl 26 _ _ rfl (w.heap.size + 1) [.int .i64 0, .int .i64 0, .int .i64 0, .int .i64 0, .int .i64 0, .int .i64 0, .int .i64 0, .int .i64 0, .int .i64 0, .int .i64 0] cf R6.out rfl rfl (by rw [hl9]; rfl) (by rw [hl9]; kernel_rfl) hone9 ?_))
    intro w9 o9 C9
    have O9 := hid o9
    have HB9 := hid (below_chg HB6.out C9 HB6.out.size (fun b hb => by omega))
    clear o9 C9
    go_wp2
    exact bodyPost_ret (results_box2 rfl _ _ (w.heap.size + 1) cf rfl O9.out _ Try.underlying26 rfl (by rw [hl9]; kernel_rfl)) rfl ⟨by rw [Hr.out, HCF.out]; rfl, HB9.out⟩
set_option maxHeartbeats 8000000 in
theorem spec_RingTake0 (r : RingD) (hL : r.cells_.length = 8) (w : World) :
    Calls Try.prog 15 #[.agg r.enc.toArray] w fun e w' => e = .returned (.tuple #[.agg (takeC r).1.enc.toArray, .int .i64 (takeC r).2.1, .int .i64 (takeC r).2.2]) ∧ Below w.heap.size w w' := by
  have hone := ring_one r
  have hl := ring_len hL
  have hl2 : r.enc.toArray.size = 10 := by rw [List.size_toArray, hl]
  have HE := hid (show r.enc = [] ++ r.cells_.flatMap encI ++ [.int .i64 r.from_, .int .i64 r.many_] from rfl)
  have HL := hid hL
  have HE8 := hid (show r.enc[8]? = some (.int .i64 r.from_) by rw [HE.out, List.nil_append, List.getElem?_append_right (by rw [ints_len]; omega), ints_len, hL]; rfl)
  have HE9 := hid (show r.enc[9]? = some (.int .i64 r.many_) by rw [HE.out, List.nil_append, List.getElem?_append_right (by rw [ints_len]; omega), ints_len, hL]; rfl)
  have HOK0 := hid (fun (W : World) => spec_RingOk0 r hL W)
  generalize hce : r.enc = ce at *
  obtain ⟨W1, hW1⟩ : ∃ X, (w.alloc (.cells ce.toArray 26)).alloc (.cells #[.int .i64 0, .int .i64 0, .int .i64 0, .int .i64 0, .int .i64 0, .int .i64 0, .int .i64 0, .int .i64 0, .int .i64 0, .int .i64 0] 26) = X := ⟨_, rfl⟩
  have hB1 : Below w.heap.size w W1 := by rw [← hW1]; exact ((Below.refl _ _).alloc (Nat.le_refl _) _).alloc (by simp) _
  have B1 := hid (show BoxF W1 w.heap.size ce by rw [← hW1]; exact (BoxF.alloc w ce.toArray 26).below ((Below.refl _ _).alloc (Nat.le_refl _) _))
  have R1 : Hid (BoxF W1 (w.heap.size + 1) [.int .i64 0, .int .i64 0, .int .i64 0, .int .i64 0, .int .i64 0, .int .i64 0, .int .i64 0, .int .i64 0, .int .i64 0, .int .i64 0]) := by
    rw [← hW1]
    have z := BoxF.alloc (w.alloc (.cells ce.toArray 26)) #[.int .i64 0, .int .i64 0, .int .i64 0, .int .i64 0, .int .i64 0, .int .i64 0, .int .i64 0, .int .i64 0, .int .i64 0, .int .i64 0] 26
    rw [show (w.alloc (.cells ce.toArray 26)).heap.size = w.heap.size + 1 by simp] at z
    exact hid z
  have HB1 := hid hB1
  have HCE := hid hce
  have HW1 := hid hW1
  have HOK := hid (HOK0.out W1)
  have hz : ∀ w : World, (zeroValue 26).run Try.prog w = .ok (.agg #[.int .i64 0, .int .i64 0, .int .i64 0, .int .i64 0, .int .i64 0, .int .i64 0, .int .i64 0, .int .i64 0, .int .i64 0, .int .i64 0]) w := fun w => zero_run w (by kernel_rfl)
  clear hL hB1 hce hW1
  cases hok : ringOk r with
  | false =>
    have Hr := hid (show takeC r = (r, 0, 1) by simp [takeC, hok])
    go_enter Try.func15, Try.ntmps15
    go_upto_region 1 with fail
    rw [HW1.out]
    go_wp2_with (first | (refine wpList_load_box rfl 26 _ rfl w.heap.size ce (by exact B1.out.1) rfl _ Try.underlying26 rfl (by rw [hl]; kernel_rfl) ?_) | (refine wpList_load_box rfl 26 _ rfl w.heap.size ce (by exact B2.out.1) rfl _ Try.underlying26 rfl (by rw [hl]; kernel_rfl) ?_) | (refine wpList_store_box rfl 26 _ _ rfl (w.heap.size + 1) [.int .i64 0, .int .i64 0, .int .i64 0, .int .i64 0, .int .i64 0, .int .i64 0, .int .i64 0, .int .i64 0, .int .i64 0, .int .i64 0] ce R2.out rfl rfl (by rw [hl]; rfl) (by rw [hl]; kernel_rfl) hone ?_) | (go_at_call 9; refine HOK.out.mono ?_; rintro e w2 ⟨rfl, b2⟩; rw [hok]; have B2 := hid (B1.out.below b2); have R2 := hid (R1.out.below b2); have HB2 := hid (HB1.out.trans (b2.mono HB1.out.size)); have k8 : w2.cell? ⟨w.heap.size, 8, none⟩ = some (.int .i64 r.from_) := (B2.out.1.2 8 (by omega)).trans HE8.out; have k9 : w2.cell? ⟨w.heap.size, 9, none⟩ = some (.int .i64 r.many_) := (B2.out.1.2 9 (by omega)).trans HE9.out; clear b2))
    intro w9 o9 C9
    have O9 := hid o9
    have HB9 := hid (below_chg HB2.out C9 HB2.out.size (fun b hb => by omega))
    clear o9 C9
    go_wp2
    exact bodyPost_ret (results_box3 rfl _ _ (w.heap.size + 1) ce rfl O9.out _ Try.underlying26 rfl (by rw [hl]; kernel_rfl)) rfl ⟨by rw [Hr.out, HCE.out]; rfl, HB9.out⟩
  | true =>
  have hfm := (ringOk_iff r).1 hok
  have hm0 := hfm.2.1
  by_cases hm8 : r.many_ = 0
  · have Hr := hid (show takeC r = (r, 0, 3) by simp [takeC, hok, hm8])
    clear hfm hm0
    go_enter Try.func15, Try.ntmps15
    go_upto_region 1 with fail
    rw [HW1.out]
    go_wp2_with (first | (refine wpList_load_box rfl 26 _ rfl w.heap.size ce (by exact B1.out.1) rfl _ Try.underlying26 rfl (by rw [hl]; kernel_rfl) ?_) | (refine wpList_load_box rfl 26 _ rfl w.heap.size ce (by exact B2.out.1) rfl _ Try.underlying26 rfl (by rw [hl]; kernel_rfl) ?_) | (refine wpList_store_box rfl 26 _ _ rfl (w.heap.size + 1) [.int .i64 0, .int .i64 0, .int .i64 0, .int .i64 0, .int .i64 0, .int .i64 0, .int .i64 0, .int .i64 0, .int .i64 0, .int .i64 0] ce R2.out rfl rfl (by rw [hl]; rfl) (by rw [hl]; kernel_rfl) hone ?_) | (go_at_call 9; refine HOK.out.mono ?_; rintro e w2 ⟨rfl, b2⟩; rw [hok]; have B2 := hid (B1.out.below b2); have R2 := hid (R1.out.below b2); have HB2 := hid (HB1.out.trans (b2.mono HB1.out.size)); have k8 : w2.cell? ⟨w.heap.size, 8, none⟩ = some (.int .i64 r.from_) := (B2.out.1.2 8 (by omega)).trans HE8.out; have k9 : w2.cell? ⟨w.heap.size, 9, none⟩ = some (.int .i64 r.many_) := (B2.out.1.2 9 (by omega)).trans HE9.out; clear b2))
    intro w9 o9 C9
    have O9 := hid o9
    have HB9 := hid (below_chg HB2.out C9 HB2.out.size (fun b hb => by omega))
    clear o9 C9
    go_wp2
    exact bodyPost_ret (results_box3 rfl _ _ (w.heap.size + 1) ce rfl O9.out _ Try.underlying26 rfl (by rw [hl]; kernel_rfl)) rfl ⟨by rw [Hr.out, HCE.out]; rfl, HB9.out⟩
  · obtain ⟨F, hF⟩ : ∃ F : Nat, r.from_ = (F : Int) := ⟨r.from_.toNat, by omega⟩
    obtain ⟨M, hM⟩ : ∃ M : Nat, r.many_ = (M : Int) := ⟨r.many_.toNat, by omega⟩
    have hFb : F ≤ 7 := by omega
    have hMb : 1 ≤ M ∧ M ≤ 8 := by omega
    have hi0' : idx8 (F : Int) 0 = F := by unfold idx8; omega
    have HIL := hid (show F < r.cells_.length by rw [HL.out]; omega)
    obtain ⟨x, hx⟩ : ∃ x, rAt r.cells_ F = x := ⟨_, rfl⟩
    obtain ⟨nf, hnf⟩ : ∃ n : Nat, ((F : Int) + 1) % 8 = (n : Int) := ⟨(((F : Int) + 1) % 8).toNat, by have := Int.emod_nonneg ((F : Int) + 1) (show (8 : Int) ≠ 0 by decide); omega⟩
    have hrem : ((F : Int) + 1).tmod 8 = (nf : Int) := by rw [Int.tmod_eq_emod_of_nonneg (by omega)]; exact hnf
    have Hr := hid (show takeC r = (⟨r.cells_.set F 0, nf, (M : Int) - 1⟩, x, 0) by
      unfold takeC takeR; rw [hok, if_pos rfl, if_neg hm8, hF, hM, hi0', hx, hnf])
    rw [hF] at HE HE8
    rw [hM] at HE HE9
    have HX := hid (show r.cells_[F]'HIL.out = x by rw [← hx]; exact (rAt_eq HIL.out).symm)
    have hi0 : (0 : Int) ≤ (F : Int) := by omega
    have hi8 : (F : Int) < 8 := by omega
    have HS1 := hid (ring_set (f := F) (m := M) F HIL.out 0)
    have hm82 : ¬ (M : Int) = 0 := by omega
    have HF := hid hF
    have HM := hid hM
    clear hfm hm0 hm8 hnf hx hi0'
    go_enter Try.func15, Try.ntmps15
    go_upto_region 1 with fail
    rw [HW1.out]
    rw [hF, hM] at *
    go_wp2_with (first | (go_at_call 9; refine HOK.out.mono ?_; rintro e w2 ⟨rfl, b2⟩; rw [hok]; have B2 := hid (B1.out.below b2); have R2 := hid (R1.out.below b2); have HB2 := hid (HB1.out.trans (b2.mono HB1.out.size)); have k8 : w2.cell? ⟨w.heap.size, 8, none⟩ = some (.int .i64 F) := (B2.out.1.2 8 (by omega)).trans HE8.out; have k9 : w2.cell? ⟨w.heap.size, 9, none⟩ = some (.int .i64 M) := (B2.out.1.2 9 (by omega)).trans HE9.out; have kx : w2.cell? ⟨w.heap.size, F, none⟩ = some (.int .i64 x) := (by have z := int_at (A := []) (by rw [← HE.out]; exact B2.out) F HIL.out; rw [HX.out] at z; simpa using z); clear b2) | (refine wpList_load_box rfl 26 _ rfl w.heap.size ce (by exact B1.out.1) rfl _ Try.underlying26 rfl (by rw [hl]; kernel_rfl) ?_) | (refine wpList_store_cell rfl 3 _ _ rfl w.heap.size F ce (.int .i64 0) B2.out rfl rfl (by omega) (by kernel_rfl) rfl rfl ?_))
    intro w5 o5 C5
    have B5 := hid (show BoxF w5 w.heap.size ([] ++ (r.cells_.set F 0).flatMap encI ++ [.int .i64 F, .int .i64 M]) by rw [← HS1.out, ← HE.out]; exact o5)
    have R5 := hid (R2.out.chg C5 (by omega))
    have HB5 := hid (below_chg HB2.out C5 HB2.out.size (fun b hb => by omega))
    have hLs : (r.cells_.set F 0).length = 8 := by rw [List.length_set]; exact HL.out
    have hl5 := ring3_len (L := r.cells_.set F 0) (f := F) (m := M) hLs
    have hl6 := ring3_len (L := r.cells_.set F 0) (f := nf) (m := M) hLs
    have HS2 := hid (ring_set_from (L := r.cells_.set F 0) (f := F) (m := M) hLs nf)
    have HS3 := hid (ring_set_many (L := r.cells_.set F 0) (f := nf) (m := M) hLs ((M : Int) - 1))
    have h58 : ([] ++ (r.cells_.set F 0).flatMap encI ++ [.int .i64 F, .int .i64 M] : List Value)[8]? = some (.int .i64 F) := by
      rw [List.nil_append, List.getElem?_append_right (by rw [ints_len, hLs]; omega), ints_len, hLs]; rfl
    have h69 : ([] ++ (r.cells_.set F 0).flatMap encI ++ [.int .i64 nf, .int .i64 M] : List Value)[9]? = some (.int .i64 M) := by
      rw [List.nil_append, List.getElem?_append_right (by rw [ints_len, hLs]; omega), ints_len, hLs]; rfl
    obtain ⟨c5, hc5⟩ : ∃ Y : List Value, [] ++ (r.cells_.set F 0).flatMap encI ++ [.int .i64 F, .int .i64 M] = Y := ⟨_, rfl⟩
    obtain ⟨c6, hc6⟩ : ∃ Y : List Value, [] ++ (r.cells_.set F 0).flatMap encI ++ [.int .i64 nf, .int .i64 M] = Y := ⟨_, rfl⟩
    rw [hc5] at B5 hl5 HS2 h58
    rw [hc6] at hl6 HS2 HS3 h69
    have k58 : w5.cell? ⟨w.heap.size, 8, none⟩ = some (.int .i64 F) := (B5.out.1.2 8 (by omega)).trans h58
    clear o5 C5 hc5 hc6 h58 k8 k9 kx
    go_wp2_with (refine wpList_store_cell rfl 3 _ _ rfl w.heap.size 8 c5 (.int .i64 nf) B5.out rfl rfl (by omega) (by kernel_rfl) rfl rfl ?_)
    intro w6 o6 C6
    have B6 := hid (show BoxF w6 w.heap.size c6 by rw [HS2.out] at o6; exact o6)
    have R6 := hid (R5.out.chg C6 (by omega))
    have HB6 := hid (below_chg HB5.out C6 HB5.out.size (fun b hb => by omega))
    have k69 : w6.cell? ⟨w.heap.size, 9, none⟩ = some (.int .i64 M) := (B6.out.1.2 9 (by omega)).trans h69
    clear o6 C6 h69 k58 B5 R5 HB5 HS2
    go_wp2_with (refine wpList_store_cell rfl 3 _ _ rfl w.heap.size 9 c6 (.int .i64 ((M : Int) - 1)) B6.out rfl rfl (by omega) (by kernel_rfl) rfl rfl ?_)
    intro w7 o7 C7
    have A7 := hid (show BoxF w7 w.heap.size (RingD.enc ⟨r.cells_.set F 0, nf, (M : Int) - 1⟩) by rw [HS3.out] at o7; exact o7)
    have R7 := hid (R6.out.chg C7 (by omega))
    have HB7 := hid (below_chg HB6.out C7 HB6.out.size (fun b hb => by omega))
    have hl9 := ring_len (r := ⟨r.cells_.set F 0, nf, (M : Int) - 1⟩) hLs
    have hone9 := ring_one ⟨r.cells_.set F 0, nf, (M : Int) - 1⟩
    clear o7 C7 B6 R6 HB6 HS3 k69 hLs
    obtain ⟨cf, hcf⟩ : ∃ Y, RingD.enc ⟨r.cells_.set F 0, nf, (M : Int) - 1⟩ = Y := ⟨_, rfl⟩
    rw [hcf] at A7 hl9 hone9
    have HCF := hid hcf
    clear hcf
    go_wp2_with (first | (refine wpList_load_box rfl 26 _ rfl w.heap.size cf (by exact A7.out.1) rfl _ Try.underlying26 rfl (by rw [hl9]; kernel_rfl) ?_) | (refine wpList_store_box rfl 26 _ _ rfl (w.heap.size + 1) [.int .i64 0, .int .i64 0, .int .i64 0, .int .i64 0, .int .i64 0, .int .i64 0, .int .i64 0, .int .i64 0, .int .i64 0, .int .i64 0] cf R7.out rfl rfl (by rw [hl9]; rfl) (by rw [hl9]; kernel_rfl) hone9 ?_))
    intro w9 o9 C9
    have O9 := hid o9
    have HB9 := hid (below_chg HB7.out C9 HB7.out.size (fun b hb => by omega))
    clear o9 C9
    go_wp2
    exact bodyPost_ret (results_box3 rfl _ _ (w.heap.size + 1) cf rfl O9.out _ Try.underlying26 rfl (by rw [hl9]; kernel_rfl)) rfl ⟨by rw [Hr.out, HCF.out]; rfl, HB9.out⟩
end Go.Proofs.Ytilbmclhnlkkmaa
