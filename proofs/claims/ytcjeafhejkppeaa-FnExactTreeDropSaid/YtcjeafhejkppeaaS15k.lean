/- Chapter 15's model: the list of the places below one. -/
import Derived.Test.YtcjeafhejkppeaaS15
import Derived.Test.YtcjeafhejkppeaaEnc4
namespace Go.Proofs.Ytcjeafhejkppeaa
set_option maxRecDepth 100000
open Go.RowKit Go.Proofs Go.Own
open Go Go.BigFrame
set_option linter.unusedVariables false
set_option linter.unusedSimpArgs false
theorem chg_on {S T : Nat → Prop} {a b c : World} (h : ChgS S a b) (g : ChgS T b c) (ht : ∀ k, T k → k < a.heap.size → S k) : ChgS S a c :=
  ⟨g.os.trans h.os, g.tape.trans h.tape, g.output.trans h.output, Nat.le_trans h.size g.size, fun k hk hs => (g.block k (Nat.lt_of_lt_of_le hk h.size) (fun t => hs (ht k t hk))).trans (h.block k hk hs)⟩
theorem results_t2 {P : Program} {fn : Func} {p q : Tmp} (h : fn.results = #[.tmp p, .tmp q]) (tmps : Array Value) (w : World) : (results fn tmps).run P w = .ok (.tuple #[tmps.getD p undef, tmps.getD q undef]) w := by
  simp [results, h]
/-- What the model's list of places is asked. -/
def KeysAt (f : Nat) : Prop := ∀ (L : List Twig), L.length = 16 → ∀ (root p : Int) (out : List Int) (S : Nat → Prop) (v : Value) (w : World), usedT L ≤ f → out.length ≤ 16 → Row S w v out →
    Calls Try.prog 34 #[.agg (encT L root).toArray, .int .i64 p, v] w fun e w' => ∃ u, e = .returned (.tuple #[u, .bool (keysT f L p out).2]) ∧ Row (fun k => S k ∨ w.heap.size ≤ k) w' u (keysT f L p out).1 ∧ ChgS S w w'
set_option maxHeartbeats 8000000 in
theorem spec_keys_step (f : Nat) (ih : ∀ g, g + 1 = f → KeysAt g) : KeysAt f := by
  intro L hL root p out S v w hf ho16 hrow
  obtain ⟨va, vc, rfl⟩ := hrow.form
  obtain ⟨j0, hj, hy0, hy1, hy2⟩ := info_parts infoIntT
  have hl : (encT L root).length = 65 := tree_len (c := ⟨L, root⟩) hL
  have hl2 : (encT L root).toArray.size = 65 := by rw [List.size_toArray, hl]
  have HL := hid hL
  have HF := hid hf
  obtain ⟨W1, hW1⟩ : ∃ X, w.alloc (.cells (encT L root).toArray 31) = X := ⟨_, rfl⟩
  have hB1 : Below w.heap.size w W1 := by rw [← hW1]; exact (Below.refl _ _).alloc (Nat.le_refl _) _
  have B1 := hid (show BoxF W1 w.heap.size (TreeD.enc ⟨L, root⟩) by rw [← hW1]; exact BoxF.alloc w (encT L root).toArray 31)
  have HS1 := hid (show W1.heap.size = w.heap.size + 1 by rw [← hW1]; simp)
  have HR1 := hid (hrow.below hB1)
  have HR0 := hid hrow
  have HG1 := hid (ChgS.of_below hB1 S)
  have HW1 := hid hW1
  have HO := hid ho16
  have HB1 := hid hB1
  clear hB1 hrow hW1 hf ho16
  by_cases hp : p = -1
  · subst hp
    have HK := hid (show keysT f L (-1) out = (out, true) by cases f <;> simp [keysT])
    (go_enter Try.func34, Try.ntmps34; go_upto_region 1 with fail; rw [HW1.out])
    go_wp2
    (refine bodyPost_ret (results_t2 rfl _ _) rfl ?_; rw [HK.out]; exact ⟨_, rfl, HR1.out.mono fun k h => .inl h, HG1.out⟩)
  · cases hin : inB p 0 15 with
    | false =>
      have HK := hid (show keysT f L p out = (out, false) by cases f <;> simp [keysT, hp, hin])
      have HN : Hid (¬ (0 ≤ p ∧ p ≤ 15)) := hid (fun h => by rw [show inB p 0 15 = true by simpa [inB] using h] at hin; cases hin)
      (go_enter Try.func34, Try.ntmps34; go_upto_region 1 with fail; rw [HW1.out])
      go_wp2_with (go_at_call 55; refine (spec_l1InIs _ _ _ _ _ hin).mono ?_; rintro e w' ⟨rfl, rfl⟩)
      (refine bodyPost_ret (results_t2 rfl _ _) rfl ?_; rw [HK.out]; exact ⟨_, rfl, HR1.out.mono fun k h => .inl h, HG1.out⟩)
    | true =>
      obtain ⟨k, rfl, hk16⟩ : ∃ k : Nat, p = (k : Int) ∧ k < 16 := by
        have : 0 ≤ p ∧ p ≤ 15 := by simpa [inB] using hin
        exact ⟨p.toNat, by omega, by omega⟩
      have HIN := hid hin
      have hk0 : (0 : Int) ≤ (k : Int) := by omega
      have hki : (k : Int) < 16 := by omega
      obtain ⟨c0, c1, c2, c3⟩ := tree_at B1.out HL.out k hk16
      obtain ⟨X, hX⟩ : ∃ X, tw L (k : Int) = X := ⟨_, rfl⟩
      rw [hX] at c0 c1 c2 c3
      have HX := hid hX
      clear hX
      obtain ⟨xu, xk, xl, xr⟩ := X
      dsimp only at c0 c1 c2 c3
      cases xu with
      | false =>
        have HK := hid (show keysT f L k out = (out, false) by cases f <;> simp [keysT, hp, hin, HX.out])
        (go_enter Try.func34, Try.ntmps34; go_upto_region 1 with fail; rw [HW1.out])
        go_wp2_with (go_at_call 55; refine (spec_l1InIs _ _ _ _ _ hin).mono ?_; rintro e w' ⟨rfl, rfl⟩)
        (refine bodyPost_ret (results_t2 rfl _ _) rfl ?_; rw [HK.out]; exact ⟨_, rfl, HR1.out.mono fun k h => .inl h, HG1.out⟩)
      | true =>
        by_cases hlen : 16 ≤ out.length
        · have HK := hid (show keysT f L k out = (out, false) by cases f <;> simp [keysT, hp, hin, HX.out] <;> omega)
          have hlen2 : (16 : Int) ≤ (out.length : Int) := by omega
          (go_enter Try.func34, Try.ntmps34; go_upto_region 1 with fail; rw [HW1.out])
          go_wp2_with (go_at_call 55; refine (spec_l1InIs _ _ _ _ _ hin).mono ?_; rintro e w' ⟨rfl, rfl⟩)
          (refine bodyPost_ret (results_t2 rfl _ _) rfl ?_; rw [HK.out]; exact ⟨_, rfl, HR1.out.mono fun k h => .inl h, HG1.out⟩)
        · have HUS := hid (show usedT (L.set k zTwig) + 1 = usedT L from usedT_set L k (by rw [HL.out]; exact hk16) (by
            have e := tw_eq L (k : Int) (by rw [Int.toNat_natCast, HL.out]; exact hk16)
            rw [HX.out] at e
            rw [show L[k]'(by rw [HL.out]; exact hk16) = L[((k : Nat) : Int).toNat]'(by rw [Int.toNat_natCast, HL.out]; exact hk16) from rfl, ← e]))
          obtain ⟨g, rfl⟩ : ∃ g, f = g + 1 := by
            cases f with
            | zero => exact absurd HF.out (by have := HUS.out; omega)
            | succ g => exact ⟨g, rfl⟩
          have hlen2 : ¬ (16 : Int) ≤ (out.length : Int) := by omega
          have hMl := set_len16 HL.out k zTwig
          have HMU := hid (show usedT (L.set k zTwig) ≤ g by
            have h1 := HF.out
            have h2 := HUS.out
            omega)
          have HKL := hid (keysT_len g (L.set k zTwig) xl out HO.out)
          have HK : Hid (keysT (g+1) L k out = if ((keysT g (L.set k zTwig) xl out).2 && decide ((keysT g (L.set k zTwig) xl out).1.length < 16)) = true then keysT g (L.set k zTwig) xr ((keysT g (L.set k zTwig) xl out).1 ++ [(k : Int)]) else ((keysT g (L.set k zTwig) xl out).1, false)) := hid (by
            rw [keysT, if_neg hp, if_pos (by rw [hin, HX.out]; simp; omega), HX.out, Int.toNat_natCast])
          have HI := hid (ih g rfl (L.set k zTwig) hMl root)
          have HSet := hid (show ([] ++ (L.set k zTwig).flatMap Twig.enc ++ [.int .i64 root] : List Value) = encT (L.set k zTwig) root from rfl)
          have HkL := hid (show k < L.length by rw [HL.out]; exact hk16)
          have HEL := hid (tree_enc L root)
          have hlM : (encT (L.set k zTwig) root).length = 65 := tree_len (c := ⟨L.set k zTwig, root⟩) hMl
          obtain ⟨W2, hW2⟩ : ∃ X, W1.alloc (.cells #[.bool true, .int .i64 xk, .int .i64 xl, .int .i64 xr] 28) = X := ⟨_, rfl⟩
          have hB2 : Below W1.heap.size W1 W2 := by rw [← hW2]; exact (Below.refl _ _).alloc (Nat.le_refl _) _
          have B2 := hid (show BoxF W2 w.heap.size ([] ++ L.flatMap Twig.enc ++ [.int .i64 root]) by rw [← HEL.out]; exact B1.out.below hB2)
          have D2 := hid (show BoxF W2 W1.heap.size [.bool true, .int .i64 xk, .int .i64 xl, .int .i64 xr] by
            rw [← hW2]; exact BoxF.alloc W1 #[.bool true, .int .i64 xk, .int .i64 xl, .int .i64 xr] 28)
          have HS2 := hid (show W2.heap.size = w.heap.size + 2 by rw [← hW2]; simp [HS1.out])
          have HG2 := hid (HG1.out.trans (ChgS.of_below hB2 S))
          have HR2 := hid ((HR0.out.cut.below (HB1.out)).below hB2)
          have HW2 := hid hW2
          obtain ⟨rr, hrr⟩ : ∃ r, keysT g (L.set k zTwig) xl out = r := ⟨_, rfl⟩
          obtain ⟨r1, o1⟩ := rr
          rw [hrr] at HKL HK
          dsimp only at HKL HK
          have HRR := hid hrr
          clear hB2 hW2 hMl hin hrr hlen HR1 HG1 B1 hp
          (go_enter Try.func34, Try.ntmps34; go_upto_region 1 with fail; rw [HW1.out])
          go_wp2_with (first | (go_at_call 55; refine (spec_l1InIs _ _ _ _ _ HIN.out).mono ?_; rintro e w' ⟨rfl, rfl⟩) | (refine wpList_store_el Twig.enc 4 (fun _ => rfl) rfl 28 _ _ rfl w.heap.size (k * 4) [] [.int .i64 root] L k zTwig (by rw [HW2.out]; exact B2.out) HkL.out (by simp) rfl rfl (by kernel_rfl) rfl ?_))
          try rw [HW2.out]
          intro w3 o3 C3
          have B3 := hid (show BoxF w3 w.heap.size (encT (L.set k zTwig) root) from o3)
          have D3 := hid (D2.out.chg C3 (by have := HS1.out; omega))
          have HR3 := hid (HR2.out.chg C3 (fun b hb => by have := hb.2; omega))
          have HG3 := hid (chg_on HG2.out C3 (fun b hb hl => by omega))
          have HS3 := hid (show w.heap.size + 2 ≤ w3.heap.size by have := C3.size; have := HS2.out; omega)
          have hl65 := hlM
          have d3 : w3.cell? ⟨W1.heap.size, 2, none⟩ = some (.int .i64 xl) := D3.out.1.2 2 (by simp)
          have HC1 := hid (HI.out xl out _ _ w3 HMU.out HO.out HR3.out)
          rw [HRR.out] at HC1
          dsimp only at HC1
          clear o3 C3 B2 D2 HR2 HG2 HS2
          go_upto_region 8 with (first | (refine wpList_load_boxg rfl 31 _ rfl w.heap.size _ (by exact B3.out.1) rfl _ Try.underlying31 rfl (by rw [hl65]; kernel_rfl) ?_) | (go_at_call 34; refine HC1.out.mono ?_; rintro e w5 ⟨u, rfl, R5, C5⟩))
          obtain ⟨ua, uc, rfl⟩ := R5.form
          have HR5 := hid R5
          have B5 := hid (B3.out.chg C5 (fun h => by have := h.2; omega))
          have D5 := hid (D3.out.chg C5 (fun h => by have := h.2; have := HS1.out; omega))
          have HG5 := hid (chg_on HG3.out C5 (fun b hb _ => hb.1))
          have HS5 := hid (show w.heap.size + 2 ≤ w5.heap.size by have := C5.size; have := HS3.out; omega)
          have hkl := HKL.out
          clear d3 HC1 R5 C5 B3 D3 HR3 HG3
          cases o1 with
          | false =>
            have HK2 := hid (HK.out.trans (if_neg (by simp)))
            go_wp2
            refine bodyPost_ret (results_t2 rfl _ _) rfl ?_
            rw [HK2.out]
            exact ⟨_, rfl, HR5.out.mono fun b h => by rcases h with h | h; exact .inl h.1; exact .inr (by have := HS3.out; omega), HG5.out⟩
          | true =>
          by_cases hr16 : r1.length < 16
          · have hr16' : ¬ (16 : Int) ≤ (r1.length : Int) := by omega
            have HK2 := hid (HK.out.trans (if_pos (by simp; exact hr16)))
            have hba : Below w5.heap.size w5 (w5.alloc (.cells #[.int .i64 k] 3)) := (Below.refl _ _).alloc (Nat.le_refl _) _
            have HBA := hid hba
            clear hba
            go_wp2_with (at_builtin; refine wpList_append_at rfl _ _ 42 rfl 0 3 j0 (.int .i64 0) 1 8 Try.underlying42 hj hy0 hy1 hy2 rfl (by decide) _ _ _ rfl (owns_below HR5.out.1 HBA.out) _ 1 _ rfl (Flat.of_owns (owns_litN w5 3 1 1 #[.int .i64 k] 0 (Nat.zero_le _) rfl (by decide))) (by decide) (oneT k) (by unfold maxLen; omega) (by omega) (by omega) ?_)
            intro v7 w7 o7 g7 p7
            have C57 : ChgS (fun b => ((S b ∧ b < w.heap.size) ∨ w3.heap.size ≤ b)) w5 w7 := (ChgS.of_below HBA.out _).trans (ChgS.of_grown g7 fun b hb => HR5.out.2 b hb)
            have B7 := hid (B5.out.chg C57 (fun h => by have := HS3.out; omega))
            have D7 := hid (D5.out.chg C57 (fun h => by have := HS3.out; have := HS1.out; omega))
            have HR7 := hid (show Row (fun b => ((S b ∧ b < w.heap.size) ∨ w3.heap.size ≤ b) ∨ w5.heap.size ≤ b) w7 v7 (r1 ++ [(k : Int)]) from ⟨by rw [encI_snocT, List.length_append]; exact o7, fun b hb => by
              rcases p7 b hb with h | h
              · exact .inl (HR5.out.2 b h)
              · exact .inr (by rw [h]; simp)⟩)
            have HG7 := hid (chg_on HG5.out C57 (fun b hb hl => by rcases hb with h | h; exact h.1; have := HS3.out; omega))
            have HS7 := hid (show w.heap.size + 2 ≤ w7.heap.size by have := C57.size; have := HS5.out; omega)
            have HS57 := hid C57.size
            have d7 : w7.cell? ⟨W1.heap.size, 3, none⟩ = some (.int .i64 xr) := D7.out.1.2 3 (by simp)
            have HC2 := hid (HI.out xr (r1 ++ [(k : Int)]) _ _ w7 HMU.out (by simp; omega) HR7.out.cut)
            obtain ⟨va7, vc7, rfl⟩ := HR7.out.form
            obtain ⟨rr2, hrr2⟩ : ∃ r, keysT g (L.set k zTwig) xr (r1 ++ [(k : Int)]) = r := ⟨_, rfl⟩
            obtain ⟨r2, o2⟩ := rr2
            rw [hrr2] at HC2 HK2
            dsimp only at HC2 HK2
            rw [show (r1 ++ [(k : Int)]).length = r1.length + 1 by simp] at HC2
            clear hrr2
            clear o7 g7 p7 C57 B5 D5 HR5 HG5 HBA
            go_wp2_with (first | (refine wpList_load_boxg rfl 31 _ rfl w.heap.size _ (by exact B7.out.1) rfl _ Try.underlying31 rfl (by rw [hl65]; kernel_rfl) ?_) | (go_at_call 34; refine HC2.out.mono ?_; rintro e w9 ⟨u, rfl, R9, C9⟩))
            have HR9 := hid R9
            have HG9 := hid (chg_on HG7.out C9 (fun b hb hl => by
              rcases hb with ⟨(h | h) | h, _⟩
              · exact h.1
              · have := HS3.out; omega
              · have := HS5.out; omega))
            clear R9 C9 d7
            go_wp2
            refine bodyPost_ret (results_t2 rfl _ _) rfl ?_
            rw [HK2.out]
            refine ⟨_, rfl, HR9.out.mono fun b h => ?_, HG9.out⟩
            rcases h with ⟨(h | h) | h, _⟩ | h
            · exact .inl h.1
            · exact .inr (by have := HS3.out; omega)
            · exact .inr (by have := HS5.out; omega)
            · exact .inr (by have := HS7.out; omega)
          · have hr16' : (16 : Int) ≤ (r1.length : Int) := by omega
            have HK2 := hid (HK.out.trans (if_neg (by simp; omega)))
            go_wp2
            refine bodyPost_ret (results_t2 rfl _ _) rfl ?_
            rw [HK2.out]
            exact ⟨_, rfl, HR5.out.mono fun b h => by rcases h with h | h; exact .inl h.1; exact .inr (by have := HS3.out; omega), HG5.out⟩
theorem spec_l15Keys0 (f : Nat) : KeysAt f := by
  induction f with
  | zero => exact spec_keys_step 0 (fun g h => by omega)
  | succ f ih => exact spec_keys_step (f+1) (fun g h => by obtain rfl : g = f := by omega
                                                           exact ih)
end Go.Proofs.Ytcjeafhejkppeaa
