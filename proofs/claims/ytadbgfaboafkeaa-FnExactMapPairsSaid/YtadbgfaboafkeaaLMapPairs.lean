/- FnExactMapPairs, walked. (printed by tools/mk_l13.py) -/
import Derived.Test.YtadbgfaboafkeaaI13p
import Derived.Test.YtadbgfaboafkeaaS13p
import Derived.Test.YtadbgfaboafkeaaC13c
import Derived.Test.YtadbgfaboafkeaaLn13
namespace Go.Proofs.Ytadbgfaboafkeaa
set_option maxRecDepth 100000
open Go.RowKit Go.Proofs Go.Own
set_option linter.unusedVariables false
set_option linter.unusedSimpArgs false
set_option maxRecDepth 100000 in
set_option maxHeartbeats 8000000 in
theorem law_MapPairs (c : ChainD) (hc : c.nodes_.length = 16) (w : World) :
    Calls Try.prog 8 #[.agg c.enc.toArray] w fun e w' => e = .returned (.bool true) ∧ Below w.heap.size w w' := by
  have hl := chain_len hc
  have hl2 : c.enc.toArray.size = 65 := by rw [List.size_toArray, hl]
  have HT := hid (fun (W : World) => toChain_c c hc W)
  have HS := hid (fun (W : World) => spec_MapPairs0 c hc W)
  have HI := hid (fun (W : World) => impl_MapPairs0 c hc W)
  have HC := hid hc
  generalize hce : c.enc = ce at *
  obtain ⟨W1, hW1⟩ : ∃ X, w.alloc (.cells ce.toArray 26) = X := ⟨_, rfl⟩
  have hB1 : Below w.heap.size w W1 := by rw [← hW1]; exact (Below.refl _ _).alloc (Nat.le_refl _) _
  have B1 := hid (show BoxF W1 w.heap.size ce by rw [← hW1]; exact BoxF.alloc w ce.toArray 26)
  have HB1 := hid hB1
  have HCE := hid hce
  clear hc hB1 hce
  have hln := pairsC_len c HC.out
  obtain ⟨X, hr⟩ : ∃ r, pairsC c = r := ⟨_, rfl⟩
  rw [hr] at HS HI hln
  have hk := keysI_len X
  have hv := valsI_len X
  obtain ⟨ks, hks⟩ : ∃ r, keysI X = r := ⟨_, rfl⟩
  obtain ⟨vs, hvs⟩ : ∃ r, valsI X = r := ⟨_, rfl⟩
  rw [hks] at HS HI hk
  rw [hvs] at HS HI hv
  have hkn : ks.length ≤ 16 := by omega
  have hvn : vs.length ≤ 16 := by omega
  clear hk hv
  go_enter Try.func8, Try.ntmps8
  go_wp2_with (first | (refine wpList_load_box rfl 26 _ rfl w.heap.size ce (by exact B1.out.1) rfl _ Try.underlying26 rfl (by rw [hl]; kernel_rfl) ?_) | (go_at_call 11; refine (HT.out _).mono ?_; rintro e wN ⟨rfl, bN⟩; have B1 := hid (B1.out.below bN); have HB1 := hid (HB1.out.trans (bN.mono HB1.out.size)); clear bN))
  refine (HS.out _).mono ?_
  rintro e wN ⟨u0, v0, rfl, o0, p0, -, bN⟩
  obtain ⟨a0, m0, c0, rfl⟩ := owns_form3 o0
  obtain ⟨ya0, ym0, yc0, rfl⟩ := owns_form3 p0
  have OW := hid o0
  have PW := hid p0
  have B1 := hid (B1.out.below bN)
  have HB1 := hid (HB1.out.trans (bN.mono HB1.out.size))
  clear bN o0 p0 hW1
  go_wp2_with (first | (refine wpList_load_box rfl 26 _ rfl w.heap.size ce (by exact B1.out.1) rfl _ Try.underlying26 rfl (by rw [hl]; kernel_rfl) ?_) | (go_at_call 11; refine (HT.out _).mono ?_; rintro e wN ⟨rfl, bN⟩; have B1 := hid (B1.out.below bN); have HB1 := hid (HB1.out.trans (bN.mono HB1.out.size)); have OW := hid (owns_below OW.out bN); have PW := hid (owns_below PW.out bN); clear bN))
  have OGB := hid B1.out.1.1
  have PGB := hid B1.out.1.1
  have Q0 := OW.out
  have Q1 := PW.out
  refine (HI.out _).mono ?_
  rintro e wN ⟨u1, v1, rfl, o1, p1, d1, bN⟩
  obtain ⟨a1, m1, c1, rfl⟩ := owns_form3 o1
  obtain ⟨ya1, ym1, yc1, rfl⟩ := owns_form3 p1
  have A0 := hid (apart Q0 (Nat.le_refl _) o1)
  have A1 := hid (apart Q1 (Nat.le_refl _) o1)
  have A2 := hid (apart Q0 (Nat.le_refl _) p1)
  have A3 := hid (apart Q1 (Nat.le_refl _) p1)
  have D1 := hid (show (Value.slice ya1 ym1 yc1).ownBlock = none ∨ (Value.slice ya1 ym1 yc1).ownBlock ≠ (Value.slice a1 m1 c1).ownBlock by
    cases h9 : (Value.slice ya1 ym1 yc1).ownBlock with
    | none => exact .inl rfl
    | some b => exact .inr fun e => d1 b e.symm h9)
  have D2 := hid (show (Value.slice a1 m1 c1).ownBlock = none ∨ (Value.slice a1 m1 c1).ownBlock ≠ (Value.slice ya1 ym1 yc1).ownBlock by
    cases h9 : (Value.slice a1 m1 c1).ownBlock with
    | none => exact .inl rfl
    | some b => exact .inr fun e => d1 b h9 e.symm)
  have OG := hid o1
  have PG := hid p1
  have B1 := hid (B1.out.below bN)
  have HB1 := hid (HB1.out.trans (bN.mono HB1.out.size))
  have OW := hid (owns_below OW.out bN)
  have PW := hid (owns_below PW.out bN)
  clear bN o1 p1 Q0 Q1 d1
  go_wp2_with fail
  refine (eqIntS_c _ _ _ _ (Flat.of_owns OG.out) (Flat.of_owns OW.out)).mono ?_
  rintro e wN ⟨rfl, bN⟩
  have B1 := hid (B1.out.below bN)
  have HB1 := hid (HB1.out.trans (bN.mono HB1.out.size))
  have OW := hid (owns_below OW.out bN)
  have PW := hid (owns_below PW.out bN)
  have OG := hid (owns_below OG.out bN)
  have PG := hid (owns_below PG.out bN)
  clear bN
  go_wp2_with fail
  refine (eqIntS_c _ _ _ _ (Flat.of_owns PG.out) (Flat.of_owns PW.out)).mono ?_
  rintro e wN ⟨rfl, bN⟩
  have B1 := hid (B1.out.below bN)
  have HB1 := hid (HB1.out.trans (bN.mono HB1.out.size))
  have OW := hid (owns_below OW.out bN)
  have PW := hid (owns_below PW.out bN)
  have OG := hid (owns_below OG.out bN)
  have PG := hid (owns_below PG.out bN)
  clear bN
  go_wp2_with fail
  refine (markIntS_c _ _ _ _ _ 1 _ (by omega) (by omega) (by omega) OG.out).mono ?_
  rintro e wM ⟨rfl, oM, gM⟩
  have hlo := OGB.out
  have B1 := hid (B1.out.grown gM (fun e9 => by have := World.ownsRow.lt OG.out _ e9; omega))
  have HB1 := hid (HB1.out.grown gM HB1.out.size (fun b e9 => by have := World.ownsRow.lt OG.out b e9; omega))
  have OW := hid (World.ownsRow.kept OW.out gM A0.out.1)
  have PW := hid (World.ownsRow.kept PW.out gM A1.out.1)
  have PG := hid (World.ownsRow.kept PG.out gM D1.out)
  have OG := hid oM
  clear oM gM hlo
  go_wp2_with fail
  refine (markIntS_c _ _ _ _ _ (1 + (ks.length : Int)) _ (by omega) (by omega) (by omega) PG.out).mono ?_
  rintro e wM ⟨rfl, oM, gM⟩
  have hlo := PGB.out
  have B1 := hid (B1.out.grown gM (fun e9 => by have := World.ownsRow.lt PG.out _ e9; omega))
  have HB1 := hid (HB1.out.grown gM HB1.out.size (fun b e9 => by have := World.ownsRow.lt PG.out b e9; omega))
  have OW := hid (World.ownsRow.kept OW.out gM A2.out.1)
  have PW := hid (World.ownsRow.kept PW.out gM A3.out.1)
  have OG := hid (World.ownsRow.kept OG.out gM D2.out)
  have PG := hid oM
  clear oM gM hlo
  go_wp2_with fail
  refine (heldIntS_c _ _ 1 _ (by omega) (by omega) (by omega) (Flat.of_owns OG.out)).mono ?_
  rintro e wN ⟨rfl, bN⟩
  have B1 := hid (B1.out.below bN)
  have HB1 := hid (HB1.out.trans (bN.mono HB1.out.size))
  have OW := hid (owns_below OW.out bN)
  have PW := hid (owns_below PW.out bN)
  have OG := hid (owns_below OG.out bN)
  have PG := hid (owns_below PG.out bN)
  clear bN
  go_wp2_with fail
  refine (heldIntS_c _ _ (1 + (ks.length : Int)) _ (by omega) (by omega) (by omega) (Flat.of_owns PG.out)).mono ?_
  rintro e wN ⟨rfl, bN⟩
  have B1 := hid (B1.out.below bN)
  have HB1 := hid (HB1.out.trans (bN.mono HB1.out.size))
  have OW := hid (owns_below OW.out bN)
  have PW := hid (owns_below PW.out bN)
  have OG := hid (owns_below OG.out bN)
  have PG := hid (owns_below PG.out bN)
  clear bN
  go_wp2_with (first | (refine wpList_load_box rfl 26 _ rfl w.heap.size ce (by exact B1.out.1) rfl _ Try.underlying26 rfl (by rw [hl]; kernel_rfl) ?_) | (go_at_call 11; refine (HT.out _).mono ?_; rintro e wN ⟨rfl, bN⟩; have B1 := hid (B1.out.below bN); have HB1 := hid (HB1.out.trans (bN.mono HB1.out.size)); have OW := hid (owns_below OW.out bN); have PW := hid (owns_below PW.out bN); have OG := hid (owns_below OG.out bN); have PG := hid (owns_below PG.out bN); clear bN))
  refine (HI.out _).mono ?_
  rintro e wN ⟨u2, v2, rfl, o2, p2, -, bN⟩
  obtain ⟨a2, m2, c2, rfl⟩ := owns_form3 o2
  obtain ⟨ya2, ym2, yc2, rfl⟩ := owns_form3 p2
  have OH := hid o2
  have PH := hid p2
  have B1 := hid (B1.out.below bN)
  have HB1 := hid (HB1.out.trans (bN.mono HB1.out.size))
  have OW := hid (owns_below OW.out bN)
  have PW := hid (owns_below PW.out bN)
  have OG := hid (owns_below OG.out bN)
  have PG := hid (owns_below PG.out bN)
  clear bN o2 p2
  go_wp2_with fail
  refine (eqIntS_c _ _ _ _ (Flat.of_owns OH.out) (Flat.of_owns OW.out)).mono ?_
  rintro e wN ⟨rfl, bN⟩
  have B1 := hid (B1.out.below bN)
  have HB1 := hid (HB1.out.trans (bN.mono HB1.out.size))
  have OW := hid (owns_below OW.out bN)
  have PW := hid (owns_below PW.out bN)
  have OG := hid (owns_below OG.out bN)
  have PG := hid (owns_below PG.out bN)
  have PH := hid (owns_below PH.out bN)
  clear bN
  go_wp2_with fail
  refine (eqIntS_c _ _ _ _ (Flat.of_owns PH.out) (Flat.of_owns PW.out)).mono ?_
  rintro e wN ⟨rfl, bN⟩
  have B1 := hid (B1.out.below bN)
  have HB1 := hid (HB1.out.trans (bN.mono HB1.out.size))
  have OW := hid (owns_below OW.out bN)
  have PW := hid (owns_below PW.out bN)
  have OG := hid (owns_below OG.out bN)
  have PG := hid (owns_below PG.out bN)
  clear bN
  go_wp2_with fail
  refine (heldIntS_c _ _ 1 _ (by omega) (by omega) (by omega) (Flat.of_owns OG.out)).mono ?_
  rintro e wN ⟨rfl, bN⟩
  have B1 := hid (B1.out.below bN)
  have HB1 := hid (HB1.out.trans (bN.mono HB1.out.size))
  have OG := hid (owns_below OG.out bN)
  have PG := hid (owns_below PG.out bN)
  clear bN
  go_wp2_with fail
  refine (heldIntS_c _ _ (1 + (ks.length : Int)) _ (by omega) (by omega) (by omega) (Flat.of_owns PG.out)).mono ?_
  rintro e wN ⟨rfl, bN⟩
  have B1 := hid (B1.out.below bN)
  have HB1 := hid (HB1.out.trans (bN.mono HB1.out.size))
  have PG := hid (owns_below PG.out bN)
  clear bN
  go_wp2
  go_ret
  exact ⟨rfl, HB1.out⟩
end Go.Proofs.Ytadbgfaboafkeaa
