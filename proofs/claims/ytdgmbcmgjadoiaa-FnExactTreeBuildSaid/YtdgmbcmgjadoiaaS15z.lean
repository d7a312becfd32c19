/- Chapter 15's model: TreeBuild. -/
import Derived.Test.YtdgmbcmgjadoiaaS15c
import Derived.Test.YtdgmbcmgjadoiaaS15n
import Derived.Test.YtdgmbcmgjadoiaaS0
import Derived.BigQuiet
namespace Go.Proofs.Ytdgmbcmgjadoiaa
set_option maxRecDepth 100000
open Go.RowKit Go.Proofs Go.Own
open Go Go.BigFrame
set_option linter.unusedVariables false
set_option linter.unusedSimpArgs false
theorem spec_l1All15 (v : Value) (xs : List Int) (a b : Int) (w : World) (h : Ints w v xs) :
    Calls Try.prog 40 #[v, .int .i64 a, .int .i64 b] w fun e w' => e = .returned (.bool (allIn xs a b 0)) ∧ w = w' := by
  obtain ⟨ad, cap, rfl, hl, hm, hc⟩ := h.open
  have hlen : xs.length ≤ 9223372036854775807 := by omega
  go_enter Try.func40, Try.ntmps40
  go_wp2
  go_loop [7] (fun i => ∃ k : Nat, k ≤ xs.length ∧ i = .int .i64 k ∧ Same (allIn xs a b 0) (allIn xs a b k)) (fun i => xs.length - (intOf i).toNat)
  case atStart => exact ⟨0, by omega, rfl, .rfl⟩
  case round =>
    obtain ⟨k, hk, rfl, hall⟩ := hrel
    by_cases hlt : k < xs.length
    · obtain ⟨bb, off, rfl, hbs, hcell⟩ := hc k hlt
      have hst := hid (allIn_step xs a b k hlt)
      clear hc
      go_wp2_with (go_at_call 65; refine (spec_l1In _ _ _ _).mono ?_; rintro e w' ⟨rfl, rfl⟩)
      · have hf : (!inB xs[k] a b) = true := by assumption
        go_ret
        exact ⟨ret_bool (by rw [hall.out, hst.out]; simp at hf; simp [hf]), rfl⟩
      · have hf : (!inB xs[k] a b) = false := by assumption
        go_round
        case rel => exact ⟨k+1, by omega, by go_num, .mk (by rw [hall.out, hst.out]; simp at hf; simp [hf])⟩
        case measure => simp [intOf]; omega
    · have hst := hid (allIn_end xs a b k hlt)
      go_wp2
      go_ret
      exact ⟨ret_bool (by rw [hall.out, hst.out]), rfl⟩
theorem results_box2 {P : Program} {fn : Func} {p q : Tmp} {ty : TypeId} (h : fn.results = #[.cell p ty, .tmp q]) (tmps : Array Value) (w : World) (b : Nat) (cs : List Value) (hp : tmps.getD p undef = .pointer (some ⟨b, 0, none⟩)) (hb : BoxF w b cs) (d : TypeDesc) (hu : P.underlying ty = some d) (hd : d.isRow = true) (hi : (P.info? ty).map (·.size) = some cs.length) :
    (results fn tmps).run P w = .ok (.tuple #[.agg cs.toArray, tmps.getD q undef]) w := by
  have hr := run_loadVar_mid (P := P) w b 0 ty cs d hb.1.range hu hd hi
  have hp2 : tmps[p]?.getD undef = .pointer (some ⟨b, 0, none⟩) := by simpa using hp
  simp [results, h, hp2, asAddr, hr]
theorem buildC_no {ks : List Int} (h : ¬ (ks.length ≤ 16 ∧ ks.all isVal = true ∧ ascI ks = true)) : buildC ks = (newTr, false) := by
  unfold buildC
  rw [if_neg (by simpa only [Bool.and_eq_true, decide_eq_true_eq, and_assoc] using h)]
  rfl
theorem buildC_yes {ks : List Int} (h : ks.length ≤ 16 ∧ ks.all isVal = true ∧ ascI ks = true) : buildC ks = (⟨buildT 16 (List.replicate 16 zTwig) ks 0, rootB ks 0⟩, true) := by
  unfold buildC
  rw [if_pos (by simpa only [Bool.and_eq_true, decide_eq_true_eq, and_assoc] using h)]
set_option maxHeartbeats 8000000 in
theorem spec_TreeBuild0 (ks : List Int) (v : Value) (w : World) (hv : Ints w v ks) :
    Calls Try.prog 12 #[v] w fun e w' => e = .returned (.tuple #[.agg (buildC ks).1.enc.toArray, .bool (buildC ks).2]) ∧ Below w.heap.size w w' := by
  obtain ⟨W1, hW1⟩ : ∃ X, w.alloc (.cells #[.bool false, .int .i64 0, .int .i64 0, .int .i64 0, .bool false, .int .i64 0, .int .i64 0, .int .i64 0, .bool false, .int .i64 0, .int .i64 0, .int .i64 0, .bool false, .int .i64 0, .int .i64 0, .int .i64 0, .bool false, .int .i64 0, .int .i64 0, .int .i64 0, .bool false, .int .i64 0, .int .i64 0, .int .i64 0, .bool false, .int .i64 0, .int .i64 0, .int .i64 0, .bool false, .int .i64 0, .int .i64 0, .int .i64 0, .bool false, .int .i64 0, .int .i64 0, .int .i64 0, .bool false, .int .i64 0, .int .i64 0, .int .i64 0, .bool false, .int .i64 0, .int .i64 0, .int .i64 0, .bool false, .int .i64 0, .int .i64 0, .int .i64 0, .bool false, .int .i64 0, .int .i64 0, .int .i64 0, .bool false, .int .i64 0, .int .i64 0, .int .i64 0, .bool false, .int .i64 0, .int .i64 0, .int .i64 0, .bool false, .int .i64 0, .int .i64 0, .int .i64 0, .int .i64 0] 27) = X := ⟨_, rfl⟩
  have hB1 : Below w.heap.size w W1 := by rw [← hW1]; exact (Below.refl _ _).alloc (Nat.le_refl _) _
  have RB : Hid (BoxF W1 w.heap.size [.bool false, .int .i64 0, .int .i64 0, .int .i64 0, .bool false, .int .i64 0, .int .i64 0, .int .i64 0, .bool false, .int .i64 0, .int .i64 0, .int .i64 0, .bool false, .int .i64 0, .int .i64 0, .int .i64 0, .bool false, .int .i64 0, .int .i64 0, .int .i64 0, .bool false, .int .i64 0, .int .i64 0, .int .i64 0, .bool false, .int .i64 0, .int .i64 0, .int .i64 0, .bool false, .int .i64 0, .int .i64 0, .int .i64 0, .bool false, .int .i64 0, .int .i64 0, .int .i64 0, .bool false, .int .i64 0, .int .i64 0, .int .i64 0, .bool false, .int .i64 0, .int .i64 0, .int .i64 0, .bool false, .int .i64 0, .int .i64 0, .int .i64 0, .bool false, .int .i64 0, .int .i64 0, .int .i64 0, .bool false, .int .i64 0, .int .i64 0, .int .i64 0, .bool false, .int .i64 0, .int .i64 0, .int .i64 0, .bool false, .int .i64 0, .int .i64 0, .int .i64 0, .int .i64 0]) := by
    rw [← hW1]; exact hid (BoxF.alloc w #[.bool false, .int .i64 0, .int .i64 0, .int .i64 0, .bool false, .int .i64 0, .int .i64 0, .int .i64 0, .bool false, .int .i64 0, .int .i64 0, .int .i64 0, .bool false, .int .i64 0, .int .i64 0, .int .i64 0, .bool false, .int .i64 0, .int .i64 0, .int .i64 0, .bool false, .int .i64 0, .int .i64 0, .int .i64 0, .bool false, .int .i64 0, .int .i64 0, .int .i64 0, .bool false, .int .i64 0, .int .i64 0, .int .i64 0, .bool false, .int .i64 0, .int .i64 0, .int .i64 0, .bool false, .int .i64 0, .int .i64 0, .int .i64 0, .bool false, .int .i64 0, .int .i64 0, .int .i64 0, .bool false, .int .i64 0, .int .i64 0, .int .i64 0, .bool false, .int .i64 0, .int .i64 0, .int .i64 0, .bool false, .int .i64 0, .int .i64 0, .int .i64 0, .bool false, .int .i64 0, .int .i64 0, .int .i64 0, .bool false, .int .i64 0, .int .i64 0, .int .i64 0, .int .i64 0] 27)
  have hz : ∀ w : World, (zeroValue 27).run Try.prog w = .ok (.agg #[.bool false, .int .i64 0, .int .i64 0, .int .i64 0, .bool false, .int .i64 0, .int .i64 0, .int .i64 0, .bool false, .int .i64 0, .int .i64 0, .int .i64 0, .bool false, .int .i64 0, .int .i64 0, .int .i64 0, .bool false, .int .i64 0, .int .i64 0, .int .i64 0, .bool false, .int .i64 0, .int .i64 0, .int .i64 0, .bool false, .int .i64 0, .int .i64 0, .int .i64 0, .bool false, .int .i64 0, .int .i64 0, .int .i64 0, .bool false, .int .i64 0, .int .i64 0, .int .i64 0, .bool false, .int .i64 0, .int .i64 0, .int .i64 0, .bool false, .int .i64 0, .int .i64 0, .int .i64 0, .bool false, .int .i64 0, .int .i64 0, .int .i64 0, .bool false, .int .i64 0, .int .i64 0, .int .i64 0, .bool false, .int .i64 0, .int .i64 0, .int .i64 0, .bool false, .int .i64 0, .int .i64 0, .int .i64 0, .bool false, .int .i64 0, .int .i64 0, .int .i64 0, .int .i64 0]) w := fun w => zero_run w (by kernel_rfl)
  obtain ⟨a, cap, rfl, hl9, hm9, hcx⟩ := Ints.open hv
  have HV := hid hv
  have HB := hid hB1
  have HW1 := hid hW1
  have HALL := hid (fun (W : World) (hb : Below w.heap.size w W) => spec_l1All15 _ ks (-1000000000) 1000000000 W (Ints.below hv hb))
  have HNT := hid (fun (W : World) => spec_NewTree0 W)
  have hlN := tree_len newTr_len
  have honeN := tree_one newTr
  have HSH := hid (show allIn ks (-1000000000) 1000000000 0 = ks.all isVal from rfl)
  rw [HSH.out] at HALL
  obtain ⟨nn, hnn⟩ : ∃ X, ks.length = X := ⟨_, rfl⟩
  obtain ⟨ba, hba⟩ : ∃ X, ks.all isVal = X := ⟨_, rfl⟩
  rw [hba] at HALL
  have HN := hid hnn
  have HBA := hid hba
  rw [hnn] at HALL hl9 ⊢
  obtain ⟨CE, hCE⟩ : ∃ X, newTr.enc = X := ⟨_, rfl⟩
  rw [hCE] at hlN honeN HNT
  have HCEn := hid hCE
  clear hW1 hB1 hv hCE hba hnn
  have HNO := hid (fun (h : ¬ (ks.length ≤ 16 ∧ ks.all isVal = true ∧ ascI ks = true)) => (show (buildC ks).1.enc = CE ∧ (buildC ks).2 = false by rw [buildC_no h]; exact ⟨HCEn.out, rfl⟩))
  by_cases hA : nn ≤ 16 ∧ ba = true
  · obtain ⟨hn16, rfl⟩ := hA
    have hgt : ¬ (nn : Int) > 16 := by omega
    have HCX := hid (show ∀ k (hk : k < ks.length), ∃ b off, a = some ⟨b, off, none⟩ ∧ b < w.heap.size ∧ w.cell? ⟨b, off + k, none⟩ = some (.int .i64 ks[k]) from by
      intro k hk
      obtain ⟨b, off, e, h1, h2⟩ := hcx k hk
      exact ⟨b, off, e, h1, h2⟩)
    have HBD := hid (fun (W : World) (hb : Below w.heap.size w W) => (show Calls Try.prog 42 #[.agg #[.bool false, .int .i64 0, .int .i64 0, .int .i64 0, .bool false, .int .i64 0, .int .i64 0, .int .i64 0, .bool false, .int .i64 0, .int .i64 0, .int .i64 0, .bool false, .int .i64 0, .int .i64 0, .int .i64 0, .bool false, .int .i64 0, .int .i64 0, .int .i64 0, .bool false, .int .i64 0, .int .i64 0, .int .i64 0, .bool false, .int .i64 0, .int .i64 0, .int .i64 0, .bool false, .int .i64 0, .int .i64 0, .int .i64 0, .bool false, .int .i64 0, .int .i64 0, .int .i64 0, .bool false, .int .i64 0, .int .i64 0, .int .i64 0, .bool false, .int .i64 0, .int .i64 0, .int .i64 0, .bool false, .int .i64 0, .int .i64 0, .int .i64 0, .bool false, .int .i64 0, .int .i64 0, .int .i64 0, .bool false, .int .i64 0, .int .i64 0, .int .i64 0, .bool false, .int .i64 0, .int .i64 0, .int .i64 0, .bool false, .int .i64 0, .int .i64 0, .int .i64 0, .int .i64 0], .slice a nn cap, .int .i64 0] W fun e w' => e = .returned (.tuple #[.agg (encT (buildT 16 (List.replicate 16 zTwig) ks 0) 0).toArray, .int .i64 (rootB ks 0), .int .i64 (0 + (nn : Int))]) ∧ Below W.heap.size W w' from by
      have z := spec_build 16 (List.replicate 16 zTwig) rfl 0 ks nn 0 0 _ W HN.out rfl hn16 (by omega) (Ints.below HV.out hb)
      rw [HN.out] at z
      exact z))
    have HYS := hid (fun (h : ascI ks = true) => (show (buildC ks).1.enc = encT (buildT 16 (List.replicate 16 zTwig) ks 0) (rootB ks 0) ∧ (buildC ks).2 = true by rw [buildC_yes ⟨by rw [HN.out]; exact hn16, HBA.out, h⟩]; exact ⟨rfl, rfl⟩))
    have hT16 : (buildT 16 (List.replicate 16 zTwig) ks 0).length = 16 := (buildT_len _ _ _ _).trans rfl
    obtain ⟨TL, hTL⟩ : ∃ X, buildT 16 (List.replicate 16 zTwig) ks 0 = X := ⟨_, rfl⟩
    obtain ⟨rt, hrt⟩ : ∃ X, rootB ks 0 = X := ⟨_, rfl⟩
    rw [hTL, hrt] at HBD HYS
    rw [hTL] at hT16
    have hl0 : (encT TL 0).length = 65 := tree_len (c := ⟨TL, 0⟩) hT16
    have hone0 : (encT TL 0).all (·.oneCell') = true := tree_one ⟨TL, 0⟩
    have hl1 : (encT TL rt).length = 65 := tree_len (c := ⟨TL, rt⟩) hT16
    have hone1 : (encT TL rt).all (·.oneCell') = true := tree_one ⟨TL, rt⟩
    have HT16 := hid hT16
    have HSET := hid (show (encT TL 0).set 64 (.int .i64 rt) = encT TL rt by
      show (TL.flatMap Twig.enc ++ [Value.int .i64 0]).set 64 (.int .i64 rt) = TL.flatMap Twig.enc ++ [Value.int .i64 rt]
      have z : (TL.flatMap Twig.enc).length = 64 := by rw [flatMap_len Twig.enc 4 (fun _ => rfl), hT16]
      rw [List.set_append_right _ _ (by omega), z]; rfl)
    obtain ⟨C0, hC0⟩ : ∃ X, encT TL 0 = X := ⟨_, rfl⟩
    obtain ⟨CF, hCF⟩ : ∃ X, encT TL rt = X := ⟨_, rfl⟩
    have HC0 := hid hC0
    rw [hC0] at HBD hl0 hone0 HSET
    rw [hCF] at HYS hl1 hone1 HSET
    clear hC0 hCF hTL hrt hT16 hcx
    have hn16i : (nn : Int) ≤ 16 := by omega
    go_enter Try.func12, Try.ntmps12
    go_upto_region 1 with fail
    rw [HW1.out]
    go_wp2_with (go_at_call 40; refine (HALL.out _ HB.out).mono ?_; rintro e w5 ⟨rfl, rfl⟩)
    go_loopw [4] (fun i wx => ∃ k : Nat, (k + 1 ≤ nn ∨ k = 0) ∧ i = .int .i64 ((k : Int) + 1) ∧ Hid (upTo ks (k+1)) ∧ Hid (Below W1.heap.size W1 wx)) (fun i _ => nn + 1 - (intOf i).toNat)
    case atStart => exact ⟨0, .inr rfl, rfl, hid (fun j h0 h1 _ => by omega), hid (Below.refl _ _)⟩
    case round =>
      obtain ⟨k, hk2, rfl, HAS, HBw⟩ := hrel
      have HB0 := hid (HB.out.trans (HBw.out.mono HB.out.size))
      have RB0 := hid (RB.out.below HBw.out)
      by_cases hlt2 : k + 1 < nn
      · have hlt' : (k : Int) + 1 < (nn : Int) := by omega
        have hlk : k + 1 < ks.length := by rw [HN.out]; exact hlt2
        obtain ⟨bb, off, rfl, hbs, c0⟩ := HCX.out k (by omega)
        have c1 := (HCX.out (k+1) hlk |> fun ⟨_, _, q, _, c⟩ => by cases q; exact c : w.cell? ⟨bb, off + (k+1), none⟩ = some (.int .i64 ks[k+1]))
        have HST := hid (upTo_next HAS.out hlk (by omega))
        have HNA := hid (fun (h : upTo ks ks.length) => h (k+1) (by omega) hlk hlk)
        simp only [Nat.add_sub_cancel] at HST HNA
        have e0 := (HB0.out.cell (p := ⟨bb, off + k, none⟩) hbs).trans c0
        have e1 := (HB0.out.cell (p := ⟨bb, off + (k+1), none⟩) hbs).trans c1
        have hix : ((k : Int) + 1).toNat = k + 1 := by omega
        have hix2 : ((k : Int) + 1 - 1).toNat = k := by omega
        obtain ⟨x0, hx0⟩ : ∃ x, ks[k] = x := ⟨_, rfl⟩
        obtain ⟨x1, hx1⟩ : ∃ x, ks[k+1] = x := ⟨_, rfl⟩
        rw [hx0] at e0 HST HNA
        rw [hx1] at e1 HST HNA
        clear c0 c1 HCX hx0 hx1 hk2 hlk
        by_cases heq : x1 ≤ x0
        · have Hn := hid (show ascI ks = false by
            cases h9 : ascI ks with
            | false => rfl
            | true => exact absurd (HNA.out ((ascI_all ks).1 h9)) (by omega))
          have HR := HNO.out (fun h => by have := h.2.2; rw [Hn.out] at this; cases this)
          have HR1 := hid HR.1
          have HR2 := hid HR.2
          clear HR HNO HYS
          go_upto_region 6 with fail
          go_quiet (fail)
          go_wp2_with (first | (go_at_call 41; refine (HNT.out _).mono ?_; rintro e w5 ⟨rfl, b5⟩; have B6 := (below_drewN HBw.out _).trans (b5.mono (below_drewN HBw.out _).size); have RB5 := hid (RB.out.below B6); have HB5 := hid (HB.out.trans (B6.mono HB.out.size)); clear B6 b5) | (refine wpList_store_box rfl 27 _ _ rfl w.heap.size [.bool false, .int .i64 0, .int .i64 0, .int .i64 0, .bool false, .int .i64 0, .int .i64 0, .int .i64 0, .bool false, .int .i64 0, .int .i64 0, .int .i64 0, .bool false, .int .i64 0, .int .i64 0, .int .i64 0, .bool false, .int .i64 0, .int .i64 0, .int .i64 0, .bool false, .int .i64 0, .int .i64 0, .int .i64 0, .bool false, .int .i64 0, .int .i64 0, .int .i64 0, .bool false, .int .i64 0, .int .i64 0, .int .i64 0, .bool false, .int .i64 0, .int .i64 0, .int .i64 0, .bool false, .int .i64 0, .int .i64 0, .int .i64 0, .bool false, .int .i64 0, .int .i64 0, .int .i64 0, .bool false, .int .i64 0, .int .i64 0, .int .i64 0, .bool false, .int .i64 0, .int .i64 0, .int .i64 0, .bool false, .int .i64 0, .int .i64 0, .int .i64 0, .bool false, .int .i64 0, .int .i64 0, .int .i64 0, .bool false, .int .i64 0, .int .i64 0, .int .i64 0, .int .i64 0] CE (by exact RB5.out) rfl rfl (by rw [hlN]; rfl) (by rw [hlN]; kernel_rfl) honeN ?_))
          intro w9 o9 C9
          have O9 := hid o9
          have HB9 := hid (below_chg HB5.out C9 HB5.out.size (fun b hb => by omega))
          clear o9 C9
          go_wp2
          exact bodyPost_ret (results_box2 rfl _ _ w.heap.size CE rfl O9.out _ Try.underlying27 rfl (by rw [hlN]; kernel_rfl)) rfl ⟨by rw [HR1.out, HR2.out]; rfl, HB9.out⟩
        · have HS9 := hid (HST.out (by omega))
          go_upto_region 6 with fail
          go_quiet (fail)
          go_wp2
          go_roundw
          case rel => exact ⟨k+1, .inl (by omega), by go_num, HS9, hid (below_drewN HBw.out _)⟩
          case measure => simp [intOf]; omega
      · have Hy := HYS.out ((ascI_all ks).2 (fun j h0 hj hjl => HAS.out j h0 (by have := HN.out; omega) hjl))
        have HY1 := hid Hy.1
        have HY2 := hid Hy.2
        have hlt' : ¬ (k : Int) + 1 < (nn : Int) := by omega
        clear HCX HAS hk2 Hy HNO HYS
        go_wp2_with (first
          | (go_at_call 42; refine (HBD.out _ HB0.out).mono ?_; rintro e w5 ⟨rfl, b5⟩; have TB5 := hid (BoxF.alloc w5 #[.bool false, .int .i64 0, .int .i64 0, .int .i64 0, .bool false, .int .i64 0, .int .i64 0, .int .i64 0, .bool false, .int .i64 0, .int .i64 0, .int .i64 0, .bool false, .int .i64 0, .int .i64 0, .int .i64 0, .bool false, .int .i64 0, .int .i64 0, .int .i64 0, .bool false, .int .i64 0, .int .i64 0, .int .i64 0, .bool false, .int .i64 0, .int .i64 0, .int .i64 0, .bool false, .int .i64 0, .int .i64 0, .int .i64 0, .bool false, .int .i64 0, .int .i64 0, .int .i64 0, .bool false, .int .i64 0, .int .i64 0, .int .i64 0, .bool false, .int .i64 0, .int .i64 0, .int .i64 0, .bool false, .int .i64 0, .int .i64 0, .int .i64 0, .bool false, .int .i64 0, .int .i64 0, .int .i64 0, .bool false, .int .i64 0, .int .i64 0, .int .i64 0, .bool false, .int .i64 0, .int .i64 0, .int .i64 0, .bool false, .int .i64 0, .int .i64 0, .int .i64 0, .int .i64 0] 27); have B6 := HBw.out.trans ((b5.alloc b5.size (.cells #[.bool false, .int .i64 0, .int .i64 0, .int .i64 0, .bool false, .int .i64 0, .int .i64 0, .int .i64 0, .bool false, .int .i64 0, .int .i64 0, .int .i64 0, .bool false, .int .i64 0, .int .i64 0, .int .i64 0, .bool false, .int .i64 0, .int .i64 0, .int .i64 0, .bool false, .int .i64 0, .int .i64 0, .int .i64 0, .bool false, .int .i64 0, .int .i64 0, .int .i64 0, .bool false, .int .i64 0, .int .i64 0, .int .i64 0, .bool false, .int .i64 0, .int .i64 0, .int .i64 0, .bool false, .int .i64 0, .int .i64 0, .int .i64 0, .bool false, .int .i64 0, .int .i64 0, .int .i64 0, .bool false, .int .i64 0, .int .i64 0, .int .i64 0, .bool false, .int .i64 0, .int .i64 0, .int .i64 0, .bool false, .int .i64 0, .int .i64 0, .int .i64 0, .bool false, .int .i64 0, .int .i64 0, .int .i64 0, .bool false, .int .i64 0, .int .i64 0, .int .i64 0, .int .i64 0] 27)).mono HBw.out.size); have RB5 := hid (RB.out.below B6); have HB5 := hid (HB.out.trans (B6.mono HB.out.size)); have h59 := b5.size; clear B6 b5)
          | (refine wpList_store_box rfl 27 _ _ rfl w5.heap.size [.bool false, .int .i64 0, .int .i64 0, .int .i64 0, .bool false, .int .i64 0, .int .i64 0, .int .i64 0, .bool false, .int .i64 0, .int .i64 0, .int .i64 0, .bool false, .int .i64 0, .int .i64 0, .int .i64 0, .bool false, .int .i64 0, .int .i64 0, .int .i64 0, .bool false, .int .i64 0, .int .i64 0, .int .i64 0, .bool false, .int .i64 0, .int .i64 0, .int .i64 0, .bool false, .int .i64 0, .int .i64 0, .int .i64 0, .bool false, .int .i64 0, .int .i64 0, .int .i64 0, .bool false, .int .i64 0, .int .i64 0, .int .i64 0, .bool false, .int .i64 0, .int .i64 0, .int .i64 0, .bool false, .int .i64 0, .int .i64 0, .int .i64 0, .bool false, .int .i64 0, .int .i64 0, .int .i64 0, .bool false, .int .i64 0, .int .i64 0, .int .i64 0, .bool false, .int .i64 0, .int .i64 0, .int .i64 0, .bool false, .int .i64 0, .int .i64 0, .int .i64 0, .int .i64 0] C0 (by exact TB5.out) rfl rfl (by rw [hl0]; rfl) (by rw [hl0]; kernel_rfl) hone0 ?_))
        intro w7 o7 C7
        have hne : w.heap.size < w5.heap.size := by have := RB.out.1.1; have := HBw.out.size; omega
        have RB7 := RB5.out.chg C7 (by omega)
        have HB7 := below_chg HB5.out C7 HB5.out.size (fun b hb => by omega)
        have c64 : w7.cell? ⟨w5.heap.size, 64, none⟩ = some (.int .i64 0) := tree_root (L := TL) (r := 0) (by rw [show TreeD.enc ⟨TL, 0⟩ = C0 from HC0.out]; exact o7) HT16.out
        have f64 : w7.frozen? ⟨w5.heap.size, 64, none⟩ = false := o7.2 64 (by omega)
        have C8 : ChgS (fun k => k = w5.heap.size) w7 (w7.setCell ⟨w5.heap.size, 64, none⟩ (.int .i64 rt)) := (ChgS.refl (fun k => k = w5.heap.size) w7).set ⟨w5.heap.size, 64, none⟩ _ rfl
        have TB8 := hid (show BoxF (w7.setCell ⟨w5.heap.size, 64, none⟩ (.int .i64 rt)) w5.heap.size CF by rw [← HSET.out]; exact o7.set 64 (by omega) _)
        have RB8 := hid (RB7.chg C8 (by omega))
        have HB8 := hid (below_chg HB7 C8 HB7.size (fun b hb => by omega))
        clear o7 C7 RB7 HB7 C8 RB5 HB5 TB5
        go_wp2_with (first
          | (refine wpList_load_boxg rfl 27 _ rfl w5.heap.size CF (by exact TB8.out.1) rfl _ Try.underlying27 rfl (by rw [hl1]; kernel_rfl) ?_)
          | (refine wpList_store_box rfl 27 _ _ rfl w.heap.size [.bool false, .int .i64 0, .int .i64 0, .int .i64 0, .bool false, .int .i64 0, .int .i64 0, .int .i64 0, .bool false, .int .i64 0, .int .i64 0, .int .i64 0, .bool false, .int .i64 0, .int .i64 0, .int .i64 0, .bool false, .int .i64 0, .int .i64 0, .int .i64 0, .bool false, .int .i64 0, .int .i64 0, .int .i64 0, .bool false, .int .i64 0, .int .i64 0, .int .i64 0, .bool false, .int .i64 0, .int .i64 0, .int .i64 0, .bool false, .int .i64 0, .int .i64 0, .int .i64 0, .bool false, .int .i64 0, .int .i64 0, .int .i64 0, .bool false, .int .i64 0, .int .i64 0, .int .i64 0, .bool false, .int .i64 0, .int .i64 0, .int .i64 0, .bool false, .int .i64 0, .int .i64 0, .int .i64 0, .bool false, .int .i64 0, .int .i64 0, .int .i64 0, .bool false, .int .i64 0, .int .i64 0, .int .i64 0, .bool false, .int .i64 0, .int .i64 0, .int .i64 0, .int .i64 0] CF (by exact RB8.out) rfl rfl (by rw [hl1]; rfl) (by rw [hl1]; kernel_rfl) hone1 ?_))
        intro w9 o9 C9
        have O9 := hid o9
        have HB9 := hid (below_chg HB8.out C9 HB8.out.size (fun b hb => by omega))
        clear o9 C9
        go_wp2
        exact bodyPost_ret (results_box2 rfl _ _ w.heap.size CF rfl O9.out _ Try.underlying27 rfl (by rw [hl1]; kernel_rfl)) rfl ⟨by rw [HY1.out, HY2.out]; rfl, HB9.out⟩
  · have HR := HNO.out (fun h => hA ⟨by rw [← HN.out]; exact h.1, by rw [← HBA.out]; exact h.2.1⟩)
    have HR1 := hid HR.1
    have HR2 := hid HR.2
    clear HR HNO
    have go : ∀ (g : Bool), (decide ((nn : Int) > 16)) = g → (g = false → ba = false) → Calls Try.prog 12 #[.slice a nn cap] w fun e w' => e = .returned (.tuple #[.agg (buildC ks).1.enc.toArray, .bool (buildC ks).2]) ∧ Below w.heap.size w w' := by
      intro g hg hgb
      rw [HR1.out, HR2.out]
      cases g with
      | true =>
        have hgt : (nn : Int) > 16 := by simpa using hg
        clear hg hgb
        go_enter Try.func12, Try.ntmps12
        go_upto_region 1 with fail
        rw [HW1.out]
        go_wp2_with (first | (go_at_call 41; refine (HNT.out _).mono ?_; rintro e w5 ⟨rfl, b5⟩; have RB5 := hid (RB.out.below b5); have HB5 := hid (HB.out.trans (b5.mono HB.out.size))) | (refine wpList_store_box rfl 27 _ _ rfl w.heap.size [.bool false, .int .i64 0, .int .i64 0, .int .i64 0, .bool false, .int .i64 0, .int .i64 0, .int .i64 0, .bool false, .int .i64 0, .int .i64 0, .int .i64 0, .bool false, .int .i64 0, .int .i64 0, .int .i64 0, .bool false, .int .i64 0, .int .i64 0, .int .i64 0, .bool false, .int .i64 0, .int .i64 0, .int .i64 0, .bool false, .int .i64 0, .int .i64 0, .int .i64 0, .bool false, .int .i64 0, .int .i64 0, .int .i64 0, .bool false, .int .i64 0, .int .i64 0, .int .i64 0, .bool false, .int .i64 0, .int .i64 0, .int .i64 0, .bool false, .int .i64 0, .int .i64 0, .int .i64 0, .bool false, .int .i64 0, .int .i64 0, .int .i64 0, .bool false, .int .i64 0, .int .i64 0, .int .i64 0, .bool false, .int .i64 0, .int .i64 0, .int .i64 0, .bool false, .int .i64 0, .int .i64 0, .int .i64 0, .bool false, .int .i64 0, .int .i64 0, .int .i64 0, .int .i64 0] CE (by exact RB5.out) rfl rfl (by rw [hlN]; rfl) (by rw [hlN]; kernel_rfl) honeN ?_))
        intro w9 o9 C9
        have O9 := hid o9
        have HB9 := hid (below_chg HB5.out C9 HB5.out.size (fun b hb => by omega))
        clear o9 C9
        go_wp2
        exact bodyPost_ret (results_box2 rfl _ _ w.heap.size CE rfl O9.out _ Try.underlying27 rfl (by rw [hlN]; kernel_rfl)) rfl ⟨by rfl, HB9.out⟩
      | false =>
        have hgt : ¬ (nn : Int) > 16 := by simpa using hg
        obtain rfl := hgb rfl
        clear hg hgb
        go_enter Try.func12, Try.ntmps12
        go_upto_region 1 with fail
        rw [HW1.out]
        go_wp2_with (first | (go_at_call 40; refine (HALL.out _ HB.out).mono ?_; rintro e w5 ⟨rfl, rfl⟩) | (go_at_call 41; refine (HNT.out _).mono ?_; rintro e w5 ⟨rfl, b5⟩; have RB5 := hid (RB.out.below b5); have HB5 := hid (HB.out.trans (b5.mono HB.out.size))) | (refine wpList_store_box rfl 27 _ _ rfl w.heap.size [.bool false, .int .i64 0, .int .i64 0, .int .i64 0, .bool false, .int .i64 0, .int .i64 0, .int .i64 0, .bool false, .int .i64 0, .int .i64 0, .int .i64 0, .bool false, .int .i64 0, .int .i64 0, .int .i64 0, .bool false, .int .i64 0, .int .i64 0, .int .i64 0, .bool false, .int .i64 0, .int .i64 0, .int .i64 0, .bool false, .int .i64 0, .int .i64 0, .int .i64 0, .bool false, .int .i64 0, .int .i64 0, .int .i64 0, .bool false, .int .i64 0, .int .i64 0, .int .i64 0, .bool false, .int .i64 0, .int .i64 0, .int .i64 0, .bool false, .int .i64 0, .int .i64 0, .int .i64 0, .bool false, .int .i64 0, .int .i64 0, .int .i64 0, .bool false, .int .i64 0, .int .i64 0, .int .i64 0, .bool false, .int .i64 0, .int .i64 0, .int .i64 0, .bool false, .int .i64 0, .int .i64 0, .int .i64 0, .bool false, .int .i64 0, .int .i64 0, .int .i64 0, .int .i64 0] CE (by exact RB5.out) rfl rfl (by rw [hlN]; rfl) (by rw [hlN]; kernel_rfl) honeN ?_))
        intro w9 o9 C9
        have O9 := hid o9
        have HB9 := hid (below_chg HB5.out C9 HB5.out.size (fun b hb => by omega))
        clear o9 C9
        go_wp2
        exact bodyPost_ret (results_box2 rfl _ _ w.heap.size CE rfl O9.out _ Try.underlying27 rfl (by rw [hlN]; kernel_rfl)) rfl ⟨by rfl, HB9.out⟩
    refine go _ rfl (fun hg => ?_)
    have h1 : ¬ (nn : Int) > 16 := by simpa using hg
    cases ba with
    | false => rfl
    | true => exact absurd ⟨by omega, rfl⟩ hA
end Go.Proofs.Ytdgmbcmgjadoiaa
