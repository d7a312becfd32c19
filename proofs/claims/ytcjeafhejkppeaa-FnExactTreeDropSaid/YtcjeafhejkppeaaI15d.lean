/- Chapter 15's program: drop, TreeDrop. (printed by tools/mk_i15d.py) -/
import Derived.Test.YtcjeafhejkppeaaI15r
namespace Go.Proofs.Ytcjeafhejkppeaa
set_option maxRecDepth 100000
open Go.RowKit Go.Proofs Go.Own
open Go Go.BigFrame
set_option linter.unusedVariables false
set_option linter.unusedSimpArgs false
theorem tw_key (L : List Twig) (k : Nat) (hk : k < L.length) (x : Int) (q : Int) : (tw (L.set k { tw L k with key_ := x }) q).left_ = (tw L q).left_ ∧ (tw (L.set k { tw L k with key_ := x }) q).right_ = (tw L q).right_ := by
  by_cases e : q.toNat = k
  · rw [tw_set_self L k hk _ q e]
    have : tw L (k : Int) = tw L q := by unfold tw; rw [Int.toNat_natCast, e]
    rw [this]; exact ⟨rfl, rfl⟩
  · rw [tw_set_ne L k _ q e]; exact ⟨rfl, rfl⟩
theorem locP_key {L : List Twig} {root : Int} {l : Nat} {q : Int} (h : LocP L root l q) (k : Nat) (hk : k < L.length) (x : Int) : LocP (L.set k { tw L k with key_ := x }) root l q := by
  rcases h with h | ⟨j, hj, ⟨h1, h2⟩ | ⟨h1, h2⟩⟩
  · exact .inl h
  · exact .inr ⟨j, hj, .inl ⟨h1, by rw [(tw_key L k hk x j).1]; exact h2⟩⟩
  · exact .inr ⟨j, hj, .inr ⟨h1, by rw [(tw_key L k hk x j).2]; exact h2⟩⟩
theorem enc_key (L : List Twig) (root : Int) (k : Nat) (hk : k < L.length) (x : Int) : (encT L root).set (k * 4 + 1) (.int .i64 x) = encT (L.set k { tw L k with key_ := x }) root := by
  unfold encT TreeD.enc
  dsimp only
  have hl := twigs_len L
  rw [List.set_append_left _ _ (by omega), set_keyT L k hk, tw_eq L (k : Int) (by rw [Int.toNat_natCast]; exact hk)]; rfl
theorem box_drew {a c : World} {b : Nat} {cs : List Value} (h : BoxF a b cs) (g : Below a.drew.heap.size a.drew c) : BoxF c b cs := BoxF.below (show BoxF a.drew b cs from h) g
theorem chg_drew {S : Nat → Prop} {w a c : World} (h : ChgS S w a) (g : ChgS S a.drew c) : ChgS S w c := h.trans (ChgS.trans (show ChgS S a a.drew from ⟨rfl, rfl, rfl, Nat.le_refl _, fun _ _ _ => rfl⟩) g)
set_option maxHeartbeats 8000000 in
theorem impl_drop0 (L : List Twig) (hL : L.length = 16) (root : Int) (b B6 l k n : Nat) (hn : n ≤ 8) (hk : k < 16) (hloc : LocP L root l k) (zs : List Int) (hp : Part L k zs) (hnd : zs.Nodup) (hlen : zs.length ≤ 16) (hbb : b ≠ B6) (w : World) (h : BoxF w b (encT L root)) (h6 : BoxF w B6 [.pointer (some ⟨b, 0, none⟩), .pointer (some ⟨b, l, none⟩), .int .i64 n]) :
    Calls Try.prog 46 #[.pointer (some ⟨B6, 0, none⟩)] w fun e w' => e = .returned (.bool (decide ((dropAt ⟨L, root⟩ l k n).2 = 0))) ∧ BoxF w' b (dropAt ⟨L, root⟩ l k n).1.enc ∧ ChgS (fun j => j = b ∨ j = B6) w w' := by
  have hkn : ¬ (k : Int) = -1 := by omega
  obtain ⟨ys, us, hi, hu, h3, h4, rfl⟩ := hp.inv hkn
  obtain ⟨n1, n2, n3, n4⟩ := nodup_split hnd
  simp only [List.length_append, List.length_cons] at hlen
  have HT := hid (impl_twig b l k w (locP_at hloc hL h) h.1.1 hk)
  unfold partV at HT
  obtain ⟨-, -, c2, c3⟩ := tree_at (show BoxF w b (TreeD.enc ⟨L, root⟩) from h) hL k hk
  have p0 : w.cell? ⟨B6, 0, none⟩ = some (.pointer (some ⟨b, 0, none⟩)) := h6.1.2 0 (by simp)
  have p1 : w.cell? ⟨B6, 1, none⟩ = some (.pointer (some ⟨b, l, none⟩)) := h6.1.2 1 (by simp)
  have BX := hid h
  have K6 := hid h6
  have HG := hid (ChgS.refl (fun j => j = b ∨ j = B6) w)
  have HBB := hid hbb
  have HL := hid hL
  have HLOC := hid hloc
  clear h h6 hbb hloc hp hnd
  by_cases hxl : (tw L k).left_ = -1
  · have HD := hid (show dropAt ⟨L, root⟩ l k n = (hangT ⟨L.set k zTwig, root⟩ l (tw L k).right_, 0) by unfold dropAt; dsimp only; rw [if_neg (by simp [hxl]), if_pos hxl, Int.toNat_natCast])
    rw [hxl] at c2
    have HLM := HLOC
    have HML := HL
    have hq16 := hk
    obtain ⟨RV, hRV⟩ : ∃ x, (tw L k).right_ = x := ⟨_, rfl⟩
    rw [hRV] at HD c3
    have HRV := hid hRV
    clear hRV hxl h3 h4
    go_enter Try.func46, Try.ntmps46
    go_upto_region 2 with (go_at_call 58; refine HT.out.mono ?_; rintro e wq ⟨rfl, bq⟩; have c2 := (bq.cell (p := ⟨b, k * 4 + 2, none⟩) BX.out.1.1).trans c2; have BX := hid (BX.out.below bq); have K6 := hid (K6.out.below bq); have HG := hid (HG.out.trans (ChgS.of_below bq _)); have q0 : wq.cell? ⟨B6, 0, none⟩ = some (.pointer (some ⟨b, 0, none⟩)) := K6.out.1.2 0 (by simp); have q1 : wq.cell? ⟨B6, 1, none⟩ = some (.pointer (some ⟨b, l, none⟩)) := K6.out.1.2 1 (by simp); clear bq)
    go_upto_region 7 with fail
    have HTW := hid (fun (W : World) (h : BoxF W b (encT L root)) => impl_twig b l k W (locP_at HLM.out HML.out h) h.1.1 hq16)
    have HRP := hid (fun (W : World) (h : BoxF W b (encT L root)) => impl_replaceBy0 L HML.out root b l k HLM.out hq16 RV W h)
    have HRT := hid (fun (W : World) (h : BoxF W b (encT L root)) => (show W.cell? ⟨b, k * 4 + 3, none⟩ = some (.int .i64 RV) from HRV.out ▸ (tree_at h HML.out k hq16).2.2.2))
    unfold partV at HTW HRP
    go_region_with (first | (go_at_call 58; refine (HTW.out _ (by exact BX.out)).mono ?_; rintro e wq ⟨rfl, bq⟩; have BX := hid (box_drew BX.out bq); have K6 := hid (box_drew K6.out bq); have HG := hid (chg_drew HG.out (ChgS.of_below bq _)); have q0 : wq.cell? ⟨B6, 0, none⟩ = some (.pointer (some ⟨b, 0, none⟩)) := K6.out.1.2 0 (by simp); have q1 : wq.cell? ⟨B6, 1, none⟩ = some (.pointer (some ⟨b, l, none⟩)) := K6.out.1.2 1 (by simp); have rt := HRT.out _ BX.out; clear bq) | (go_at_call 65; refine (HRP.out _ (by exact BX.out)).mono ?_; rintro e wq ⟨rfl, B9, C9⟩; have HG9 := hid (ChgS.trans HG.out (C9.mono fun j h => .inl h)); have O9 := hid B9; clear B9 C9))
    all_goals go_wp2
    all_goals go_ret
    all_goals exact ⟨by rw [HD.out]; rfl, by rw [HD.out]; exact O9.out, HG9.out⟩
  · by_cases hxr : (tw L k).right_ = -1
    · have HD := hid (show dropAt ⟨L, root⟩ l k n = (hangT ⟨L.set k zTwig, root⟩ l (tw L k).left_, 0) by unfold dropAt; dsimp only; rw [if_neg (by simp [hxr]), if_neg hxl, Int.toNat_natCast])
      rw [hxr] at c3
      obtain ⟨LV, hLV⟩ : ∃ x, (tw L k).left_ = x := ⟨_, rfl⟩
      rw [hLV] at HD c2 hxl
      have hxl2 : (LV == -1) = false := by simpa using hxl
      have hxl3 : (LV != -1) = true := by simpa using hxl
      have HRP := hid (fun (W : World) (h : BoxF W b (encT L root)) => impl_replaceBy0 L HL.out root b l k HLOC.out hk LV W h)
      unfold partV at HRP
      clear hLV hxr h3 h4
      go_enter Try.func46, Try.ntmps46
      go_upto_region 2 with (go_at_call 58; refine HT.out.mono ?_; rintro e wq ⟨rfl, bq⟩; have c2 := (bq.cell (p := ⟨b, k * 4 + 2, none⟩) BX.out.1.1).trans c2; have c3 := (bq.cell (p := ⟨b, k * 4 + 3, none⟩) BX.out.1.1).trans c3; have BX := hid (BX.out.below bq); have K6 := hid (K6.out.below bq); have HG := hid (HG.out.trans (ChgS.of_below bq _)); have q0 : wq.cell? ⟨B6, 0, none⟩ = some (.pointer (some ⟨b, 0, none⟩)) := K6.out.1.2 0 (by simp); have q1 : wq.cell? ⟨B6, 1, none⟩ = some (.pointer (some ⟨b, l, none⟩)) := K6.out.1.2 1 (by simp); clear bq)
      go_upto_region 8 with fail
      go_still_tail 8, (by kernel_rfl)
      change wpList _ _ _ _ _ wq.drew
      have BX := hid (show BoxF wq.drew b (encT L root) from BX.out)
      have HG := hid (chg_drew HG.out (ChgS.refl _ _))
      clear q0 q1 c2 c3 K6
      generalize wq.drew = w3 at *
      go_wp2_with (go_at_call 65; refine (HRP.out _ BX.out).mono ?_; rintro e wq ⟨rfl, B9, C9⟩; have HG9 := hid (HG.out.trans (C9.mono fun j h => .inl h)); have O9 := hid B9; clear B9 C9)
      go_ret
      exact ⟨by rw [HD.out]; rfl, by rw [HD.out]; exact O9.out, HG9.out⟩
    · have hgo := goP_least L 16 (k * 4 + 3) (tw L k).right_ us n l h4 hxr (by omega) hn
      have hend := leastT_end L root k hi 16 (k * 4 + 3) (tw L k).right_ us (n+1) h4 hxr n2 (by omega) n4 (.inr ⟨k, hk, .inr ⟨rfl, rfl⟩⟩) (by omega) (.inl (by rw [Int.toNat_natCast]))
      have HD0 := hid (show dropAt ⟨L, root⟩ l k n = dropLeast ⟨L, root⟩ k (leastT L 16 (k * 4 + 3) (tw L k).right_ (n+1)) by unfold dropAt; dsimp only; rw [if_pos ⟨hxl, hxr⟩, Int.toNat_natCast])
      have HLE := hid (fun (G : Option (Nat × Nat)) (hG : goP L (8 - n) (k * 4 + 3) (tw L k).right_ n l = G) (W : World) (h : BoxF W b (encT L root)) (h6 : BoxF W B6 [.pointer (some ⟨b, 0, none⟩), .pointer (some ⟨b, l, none⟩), .int .i64 n]) => impl_toLeast0 L HL.out root b B6 l k n hn hk HLOC.out us h4 G hG HBB.out W h h6)
      obtain ⟨⟨Rl, Rq, Rm⟩, hR⟩ : ∃ r, leastT L 16 (k * 4 + 3) (tw L k).right_ (n+1) = r := ⟨_, rfl⟩
      rw [hR] at hgo hend HD0
      dsimp only at hgo hend
      obtain ⟨e1, e2, e3, e4, e5, e6, e7⟩ := hend
      obtain ⟨q, rfl, hq16⟩ : ∃ q : Nat, Rq = (q : Int) ∧ q < 16 := by
        have := inB_nn e1
        exact ⟨Rq.toNat, by omega, by omega⟩
      obtain ⟨LV, hLV⟩ : ∃ x, (tw L k).left_ = x := ⟨_, rfl⟩
      obtain ⟨XV, hXV⟩ : ∃ x, (tw L k).right_ = x := ⟨_, rfl⟩
      rw [hLV] at c2 hxl
      rw [hXV] at c3 hxr hgo HLE
      have hxl2 : (LV == -1) = false := by simpa using hxl
      have hxl3 : (LV != -1) = true := by simpa using hxl
      have hxr2 : (XV == -1) = false := by simpa using hxr
      have hxr3 : (XV != -1) = true := by simpa using hxr
      clear hR hLV hXV h3 h4
      by_cases h8 : Rm ≤ 8
      · have HLE2 := hid (HLE.out _ (hgo.trans (if_pos h8)))
        have HD1 := hid (HD0.out.trans (show dropLeast ⟨L, root⟩ k (Rl, (q : Int), Rm) = (hangT ⟨(L.set k { tw L k with key_ := (tw L q).key_ }).set q zTwig, root⟩ Rl (tw L q).right_, 0) by unfold dropLeast; dsimp only; rw [if_pos h8, Int.toNat_natCast, Int.toNat_natCast]))
        have hkL : k < L.length := by rw [HL.out]; exact hk
        have HLM := hid (locP_key e4 k hkL (tw L q).key_)
        have HML := hid (set_len16 HL.out k { tw L k with key_ := (tw L q).key_ })
        have HTR := hid ((tw_key L k hkL (tw L q).key_ q).2)
        have HEK := hid (enc_key L root k hkL (tw L q).key_)
        have HTQ := hid (fun (W : World) (h : BoxF W b (encT L root)) => impl_twig b Rl q W (locP_at e4 HL.out h) h.1.1 hq16)
        unfold partV at HTQ
        have HKQ := hid (fun (W : World) (h : BoxF W b (encT L root)) => (tree_at h HL.out q hq16).2.1)
        have hl65 : (encT L root).length = 65 := tree_len (c := ⟨L, root⟩) HL.out
        obtain ⟨KV, hKV⟩ : ∃ x, (tw L q).key_ = x := ⟨_, rfl⟩
        obtain ⟨RV, hRV⟩ : ∃ x, (tw L q).right_ = x := ⟨_, rfl⟩
        rw [hKV] at HD1 HLM HML HTR HEK HKQ
        rw [hRV] at HD1 HTR
        obtain ⟨M, hM⟩ : ∃ X, L.set k { tw L k with key_ := KV } = X := ⟨_, rfl⟩
        rw [hM] at HD1 HLM HML HTR HEK
        have HD := HD1
        have HRV := HTR
        clear hKV hRV hM HLE hgo HD0 HD1 e1 e2 e3 e4 e5 e6 e7 hkL
        go_enter Try.func46, Try.ntmps46
        go_upto_region 2 with (go_at_call 58; refine HT.out.mono ?_; rintro e wq ⟨rfl, bq⟩; have c2 := (bq.cell (p := ⟨b, k * 4 + 2, none⟩) BX.out.1.1).trans c2; have c3 := (bq.cell (p := ⟨b, k * 4 + 3, none⟩) BX.out.1.1).trans c3; have BX := hid (BX.out.below bq); have K6 := hid (K6.out.below bq); have HG := hid (HG.out.trans (ChgS.of_below bq _)); clear bq)
        go_upto_region 6 with (go_at_call 64; refine (HLE2.out _ BX.out K6.out).mono ?_; rintro e wr ⟨rfl, C5, hk6⟩; have BX := hid (BX.out.chg C5 HBB.out); have K6 := hid (hk6 _ _ rfl); have HG := hid (HG.out.trans (C5.mono fun j h => .inr h)); have q0 : wr.cell? ⟨B6, 0, none⟩ = some (.pointer (some ⟨b, 0, none⟩)) := K6.out.1.2 0 (by simp); have q1 : wr.cell? ⟨B6, 1, none⟩ = some (.pointer (some ⟨b, Rl, none⟩)) := K6.out.1.2 1 (by simp); clear C5 hk6)
        go_wp2_with (first | (go_at_call 58; refine (HTQ.out _ BX.out).mono ?_; rintro e ws ⟨rfl, bq⟩; have BX := hid (BX.out.below bq); have K6 := hid (K6.out.below bq); have HG := hid (HG.out.trans (ChgS.of_below bq _)); have t1 := HKQ.out _ BX.out; clear bq) | (refine wpList_store_cell rfl 3 _ _ rfl b (k * 4 + 1) (encT L root) (.int .i64 KV) (by exact BX.out) rfl rfl (by rw [hl65]; omega) (by kernel_rfl) rfl rfl ?_))
        intro w5 o5 C5
        rw [HEK.out] at o5
        have HG := hid (HG.out.trans (C5.mono fun j h => .inl h))
        have K6 := hid (K6.out.chg C5 (fun e => HBB.out e.symm))
        have BX := hid o5
        clear o5 C5 t1 c2 c3 q0 q1
        have q0 : w5.cell? ⟨B6, 0, none⟩ = some (.pointer (some ⟨b, 0, none⟩)) := K6.out.1.2 0 (by simp)
        have q1 : w5.cell? ⟨B6, 1, none⟩ = some (.pointer (some ⟨b, Rl, none⟩)) := K6.out.1.2 1 (by simp)
        go_upto_region 7 with fail
        have HTW := hid (fun (W : World) (h : BoxF W b (encT M root)) => impl_twig b Rl q W (locP_at HLM.out HML.out h) h.1.1 hq16)
        have HRP := hid (fun (W : World) (h : BoxF W b (encT M root)) => impl_replaceBy0 M HML.out root b Rl q HLM.out hq16 RV W h)
        have HRT := hid (fun (W : World) (h : BoxF W b (encT M root)) => (show W.cell? ⟨b, q * 4 + 3, none⟩ = some (.int .i64 RV) from HRV.out ▸ (tree_at h HML.out q hq16).2.2.2))
        unfold partV at HTW HRP
        go_region_with (first | (go_at_call 58; refine (HTW.out _ (by exact BX.out)).mono ?_; rintro e wq ⟨rfl, bq⟩; have BX := hid (box_drew BX.out bq); have K6 := hid (box_drew K6.out bq); have HG := hid (chg_drew HG.out (ChgS.of_below bq _)); have q0 : wq.cell? ⟨B6, 0, none⟩ = some (.pointer (some ⟨b, 0, none⟩)) := K6.out.1.2 0 (by simp); have q1 : wq.cell? ⟨B6, 1, none⟩ = some (.pointer (some ⟨b, Rl, none⟩)) := K6.out.1.2 1 (by simp); have rt := HRT.out _ BX.out; clear bq) | (go_at_call 65; refine (HRP.out _ (by exact BX.out)).mono ?_; rintro e wq ⟨rfl, B9, C9⟩; have HG9 := hid (ChgS.trans HG.out (C9.mono fun j h => .inl h)); have O9 := hid B9; clear B9 C9))
        all_goals go_wp2
        all_goals go_ret
        all_goals exact ⟨by rw [HD.out]; rfl, by rw [HD.out]; exact O9.out, HG9.out⟩
      · have HLE2 := hid (HLE.out _ (hgo.trans (if_neg h8)))
        have HD := hid (HD0.out.trans (show dropLeast ⟨L, root⟩ k (Rl, (q : Int), Rm) = (⟨L, root⟩, 2) by unfold dropLeast; rw [if_neg h8]))
        clear HLE hgo HD0 e1 e2 e3 e4 e5 e6 e7
        go_enter Try.func46, Try.ntmps46
        go_upto_region 2 with (go_at_call 58; refine HT.out.mono ?_; rintro e wq ⟨rfl, bq⟩; have c2 := (bq.cell (p := ⟨b, k * 4 + 2, none⟩) BX.out.1.1).trans c2; have c3 := (bq.cell (p := ⟨b, k * 4 + 3, none⟩) BX.out.1.1).trans c3; have BX := hid (BX.out.below bq); have K6 := hid (K6.out.below bq); have HG := hid (HG.out.trans (ChgS.of_below bq _)); clear bq)
        go_wp2_with (go_at_call 64; refine (HLE2.out _ BX.out K6.out).mono ?_; rintro e wr ⟨rfl, C5, hk6⟩; have BX := hid (BX.out.chg C5 HBB.out); have HG := hid (HG.out.trans (C5.mono fun j h => .inr h)); clear C5 hk6)
        go_ret
        exact ⟨by rw [HD.out]; rfl, by rw [HD.out]; exact BX.out, HG.out⟩
end Go.Proofs.Ytcjeafhejkppeaa
