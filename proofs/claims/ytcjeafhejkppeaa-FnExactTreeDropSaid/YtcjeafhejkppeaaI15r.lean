/- Chapter 15's program: a twig taken out; on to the least twig of the right part. -/
import Derived.Test.YtcjeafhejkppeaaI15a
import Derived.Test.YtcjeafhejkppeaaF15d
namespace Go.Proofs.Ytcjeafhejkppeaa
set_option maxRecDepth 100000
open Go.RowKit Go.Proofs Go.Own
open Go Go.BigFrame
set_option linter.unusedVariables false
set_option linter.unusedSimpArgs false
theorem locP_at {L : List Twig} {root : Int} {l : Nat} {q : Int} (h : LocP L root l q) (hL : L.length = 16) {W : World} {b : Nat} (hB : BoxF W b (encT L root)) : W.cell? ⟨b, l, none⟩ = some (.int .i64 q) := by
  rcases h with ⟨rfl, rfl⟩ | ⟨k, hk, ⟨rfl, rfl⟩ | ⟨rfl, rfl⟩⟩
  · exact tree_root hB hL
  · exact (tree_at hB hL k hk).2.2.1
  · exact (tree_at hB hL k hk).2.2.2
set_option maxHeartbeats 4000000 in
theorem impl_replaceBy0 (L : List Twig) (hL : L.length = 16) (root : Int) (b l k : Nat) (hloc : LocP L root l k) (hk : k < 16) (v : Int) (w : World) (h : BoxF w b (encT L root)) :
    Calls Try.prog 65 #[partV b l, .int .i64 v] w fun e w' => e = .returned (.tuple #[]) ∧ BoxF w' b (hangT ⟨L.set k zTwig, root⟩ l v).enc ∧ ChgS (fun j => j = b) w w' := by
  have hb := h.1.1
  obtain ⟨W1, hW1⟩ : ∃ X, w.alloc (.cells #[.pointer (some ⟨b, 0, none⟩), .pointer (some ⟨b, l, none⟩)] 60) = X := ⟨_, rfl⟩
  have hB1 : Below w.heap.size w W1 := by rw [← hW1]; exact (Below.refl _ _).alloc (Nat.le_refl _) _
  have K := hid (show BoxF W1 w.heap.size [.pointer (some ⟨b, 0, none⟩), .pointer (some ⟨b, l, none⟩)] by rw [← hW1]; exact BoxF.alloc w #[.pointer (some ⟨b, 0, none⟩), .pointer (some ⟨b, l, none⟩)] 60)
  have BX := hid (h.below hB1)
  have HG := hid (ChgS.of_below hB1 (fun j => j = b))
  have d0 : W1.cell? ⟨w.heap.size, 0, none⟩ = some (.pointer (some ⟨b, 0, none⟩)) := K.out.1.2 0 (by simp)
  have d1 : W1.cell? ⟨w.heap.size, 1, none⟩ = some (.pointer (some ⟨b, l, none⟩)) := K.out.1.2 1 (by simp)
  have HP := hid (impl_twig b l k W1 (locP_at hloc hL BX.out) BX.out.1.1 hk)
  have HkL := hid (show k < L.length by rw [hL]; exact hk)
  have HH := hid (fun (W : World) (h : BoxF W b (encT (L.set k zTwig) root)) => impl_hang0 (L.set k zTwig) (set_len16 hL k zTwig) root b l hloc.C v W h)
  have HW1 := hid hW1
  clear hW1 hB1 h hloc
  unfold partV at *
  go_enter Try.func65, Try.ntmps65
  go_upto_region 1 with fail
  rw [HW1.out]
  go_wp2_with (first | (go_at_call 58; refine HP.out.mono ?_; rintro e wq ⟨rfl, bq⟩; have K := hid (K.out.below bq); have BX := hid (BX.out.below bq); have HG := hid (HG.out.trans (ChgS.of_below bq _)); clear bq) | (refine wpList_store_el Twig.enc 4 (fun _ => rfl) rfl 28 _ _ rfl b (k * 4) [] [.int .i64 root] L k zTwig (by exact BX.out) HkL.out (by simp) rfl rfl (by kernel_rfl) rfl ?_))
  intro w5 o5 C5
  have BX5 := hid (show BoxF w5 b (encT (L.set k zTwig) root) from o5)
  have HG5 := hid (HG.out.trans C5)
  have K5 := hid (K.out.chg C5 (by omega))
  have d0 : w5.cell? ⟨w.heap.size, 0, none⟩ = some (.pointer (some ⟨b, 0, none⟩)) := K5.out.1.2 0 (by simp)
  have d1 : w5.cell? ⟨w.heap.size, 1, none⟩ = some (.pointer (some ⟨b, l, none⟩)) := K5.out.1.2 1 (by simp)
  clear o5 C5 K BX HG
  go_wp2_with (go_at_call 45; refine (HH.out _ BX5.out).mono ?_; rintro e wq ⟨rfl, B9, C9⟩; have HG9 := hid (HG5.out.trans C9))
  refine bodyPost_end (results_none rfl _ _ _) rfl ⟨rfl, B9, HG9.out⟩
set_option maxHeartbeats 8000000 in
theorem impl_toLeast0 (L : List Twig) (hL : L.length = 16) (root : Int) (b B6 l0 k n : Nat) (hn : n ≤ 8) (hk : k < 16) (hloc : LocP L root l0 k) (xs : List Int) (hp : Part L (tw L k).right_ xs) (G : Option (Nat × Nat)) (hG : goP L (8 - n) (k * 4 + 3) (tw L k).right_ n l0 = G) (hbb : b ≠ B6) (w : World) (h : BoxF w b (encT L root)) (h6 : BoxF w B6 [.pointer (some ⟨b, 0, none⟩), .pointer (some ⟨b, l0, none⟩), .int .i64 n]) :
    Calls Try.prog 64 #[.pointer (some ⟨B6, 0, none⟩)] w fun e w' => e = .returned (.bool G.isSome) ∧ ChgS (fun j => j = B6) w w' ∧ ∀ l' m', G = some (l', m') → BoxF w' B6 [.pointer (some ⟨b, 0, none⟩), .pointer (some ⟨b, l', none⟩), .int .i64 (m' : Nat)] := by
  have HL := hid hL
  have HR := hid (impl_right b l0 k w (locP_at hloc hL h) h.1.1 hk)
  unfold partV at HR
  have BX := hid h
  have K6 := hid h6
  have HBB := hid hbb
  have p0 : w.cell? ⟨B6, 0, none⟩ = some (.pointer (some ⟨b, 0, none⟩)) := h6.1.2 0 (by simp)
  have p1 : w.cell? ⟨B6, 1, none⟩ = some (.pointer (some ⟨b, l0, none⟩)) := h6.1.2 1 (by simp)
  have HLO := hid (show LocP L root (k * 4 + 3) (tw L k).right_ from .inr ⟨k, hk, .inr ⟨rfl, rfl⟩⟩)
  have HP := hid hp
  have HGO := hid hG
  clear h h6 hp hG hloc hL
  go_enter Try.func64, Try.ntmps64
  go_upto_region 2 with (go_at_call 60; refine HR.out.mono ?_; rintro e w2 ⟨rfl, b2⟩; have b2 := hid b2)
  obtain ⟨W3, hW3⟩ : ∃ X, w2.alloc (.cells #[.pointer (some ⟨b, 0, none⟩), .pointer (some ⟨b, k * 4 + 3, none⟩)] 60) = X := ⟨_, rfl⟩
  have hb3 : Below w2.heap.size w2 W3 := by rw [← hW3]; exact (Below.refl _ _).alloc (Nat.le_refl _) _
  have hb13 : Below w.heap.size w W3 := b2.out.trans (hb3.mono b2.out.size)
  have BX3 := hid (BX.out.below hb13)
  have K63 := hid (K6.out.below hb13)
  have K33 := hid (show BoxF W3 w2.heap.size [.pointer (some ⟨b, 0, none⟩), .pointer (some ⟨b, k * 4 + 3, none⟩)] by rw [← hW3]; exact BoxF.alloc w2 #[.pointer (some ⟨b, 0, none⟩), .pointer (some ⟨b, k * 4 + 3, none⟩)] 60)
  have HG3 := hid (ChgS.of_below hb13 (fun j => j = B6))
  have HS3 := hid b2.out.size
  have HW := hid K6.out.1.1
  have HWb := hid BX.out.1.1
  have HW3 := hid hW3
  rw [HW3.out]
  clear hW3 hb3 hb13 b2 HW3 BX K6 HR p0 p1
  go_loopw [3] (fun v wr => ∃ (B3 l : Nat) (q : Int) (m lw : Nat) (xs : List Int), v = .pointer (some ⟨B3, 0, none⟩) ∧ m ≤ 8 ∧ w.heap.size ≤ B3 ∧ Hid (BoxF wr B3 [.pointer (some ⟨b, 0, none⟩), .pointer (some ⟨b, l, none⟩)]) ∧ Hid (BoxF wr B6 [.pointer (some ⟨b, 0, none⟩), .pointer (some ⟨b, lw, none⟩), .int .i64 m]) ∧ Hid (BoxF wr b (encT L root)) ∧ Hid (LocP L root l q) ∧ Hid (Part L q xs) ∧ Hid (goP L (8 - m) l q m lw = G) ∧ Hid (ChgS (fun j => j = B6) w wr) ∧ Hid (w.heap.size ≤ wr.heap.size)) (fun _ wr => match wr.cell? ⟨B6, 2, none⟩ with | some (.int _ n) => (9 - n).toNat | _ => 0)
  case atStart => exact ⟨w2.heap.size, k * 4 + 3, _, n, l0, xs, rfl, hn, HS3.out, K33, K63, BX3, HLO, HP, HGO, HG3, hid HG3.out.size⟩
  case round =>
    clear BX3 K63 K33 HG3 HS3 HLO HP HGO
    obtain ⟨B3, l, q, m, lw, xs, rfl, hm8, hB3, K3, K6, BX, HLO, HP, HGO, HG, HS⟩ := hrel
    have HB3 := hid hB3
    clear hB3
    have q0 : wr.cell? ⟨B3, 0, none⟩ = some (.pointer (some ⟨b, 0, none⟩)) := K3.out.1.2 0 (by simp); have q1 : wr.cell? ⟨B3, 1, none⟩ = some (.pointer (some ⟨b, l, none⟩)) := K3.out.1.2 1 (by simp); have q2 : wr.cell? ⟨B6, 2, none⟩ = some (.int .i64 m) := K6.out.1.2 2 (by simp)
    have HNN := hid (impl_isNone b l q wr (locP_at HLO.out HL.out BX.out) BX.out.1.1)
    unfold partV at HNN
    by_cases hq : q = -1
    · subst hq
      have HE := hid (show some (lw, m) = G from (by cases h9 : 8 - m <;> simp [goP] : some (lw, m) = goP L (8 - m) l (-1) m lw).trans HGO.out)
      clear q2
      go_wp2_with (go_at_call 57; refine HNN.out.mono ?_; rintro e wq ⟨rfl, bq⟩; have K3 := hid (K3.out.below bq); have K6 := hid (K6.out.below bq); have BX := hid (BX.out.below bq); have HG := hid (HG.out.trans (ChgS.of_below bq _)); have HS := hid (Nat.le_trans HS.out bq.size); have q0 : wq.cell? ⟨B3, 0, none⟩ = some (.pointer (some ⟨b, 0, none⟩)) := K3.out.1.2 0 (by simp); have q1 : wq.cell? ⟨B3, 1, none⟩ = some (.pointer (some ⟨b, l, none⟩)) := K3.out.1.2 1 (by simp); clear bq)
      go_ret
      refine ⟨by rw [← HE.out]; rfl, HG.out, fun l' m' h9 => ?_⟩
      rw [← HE.out] at h9
      obtain ⟨rfl, rfl⟩ := Prod.mk.inj (Option.some.inj h9)
      exact K6.out
    · obtain ⟨ys, zs, hi, hu, h3, h4, -⟩ := HP.out.inv hq
      obtain ⟨j, rfl, hj16⟩ : ∃ j : Nat, q = (j : Int) ∧ j < 16 := by
        have := inB_nn hi
        exact ⟨q.toNat, by omega, by omega⟩
      have hdq : decide ((j : Int) = -1) = false := decide_eq_false hq
      rw [hdq] at HNN
      by_cases h8 : m = 8
      · subst h8
        have HE := hid (show none = G from (by simp [goP, hq] : none = goP L (8 - 8) l (j : Int) 8 lw).trans HGO.out)
        clear q2
        go_wp2_with (first | (go_at_call 57; refine HNN.out.mono ?_; rintro e wq ⟨rfl, bq⟩; have K3 := hid (K3.out.below bq); have K6 := hid (K6.out.below bq); have BX := hid (BX.out.below bq); have HG := hid (HG.out.trans (ChgS.of_below bq _)); have HS := hid (Nat.le_trans HS.out bq.size); have q0 : wq.cell? ⟨B3, 0, none⟩ = some (.pointer (some ⟨b, 0, none⟩)) := K3.out.1.2 0 (by simp); have q1 : wq.cell? ⟨B3, 1, none⟩ = some (.pointer (some ⟨b, l, none⟩)) := K3.out.1.2 1 (by simp); clear bq) | (go_at_call 63; refine (impl_open8 B6 _ _ _ K6.out).mono ?_; rintro e w' ⟨rfl, rfl⟩))
        go_ret
        exact ⟨by rw [← HE.out]; rfl, HG.out, fun l' m' h9 => by rw [← HE.out] at h9; cases h9⟩
      · have hm7 : m < 8 := by omega
        have HGN := hid (show goP L (8 - (m+1)) (j * 4 + 2) (tw L j).left_ (m+1) l = G by
          rw [← HGO.out, show 8 - m = (8 - (m+1)) + 1 by omega, goP, if_neg hq, Int.toNat_natCast])
        have H3 := hid h3
        have HLN := hid (show LocP L root (j * 4 + 2) (tw L j).left_ from .inr ⟨j, hj16, .inl ⟨rfl, rfl⟩⟩)
        have HLL := hid (fun (W : World) (h : BoxF W b (encT L root)) => impl_left b l j W (locP_at HLO.out HL.out h) h.1.1 hj16)
        unfold partV at HLL
        have hmz := hid q2
        clear hi hu h3 h4 hq hdq q2
        go_wp2_with (first | (go_at_call 57; refine HNN.out.mono ?_; rintro e wq ⟨rfl, bq⟩; have K3 := hid (K3.out.below bq); have K6 := hid (K6.out.below bq); have BX := hid (BX.out.below bq); have HG := hid (HG.out.trans (ChgS.of_below bq _)); have HS := hid (Nat.le_trans HS.out bq.size); have q0 : wq.cell? ⟨B3, 0, none⟩ = some (.pointer (some ⟨b, 0, none⟩)) := K3.out.1.2 0 (by simp); have q1 : wq.cell? ⟨B3, 1, none⟩ = some (.pointer (some ⟨b, l, none⟩)) := K3.out.1.2 1 (by simp); clear bq) | (go_at_call 63; refine (impl_openN B6 _ _ m hm7 _ K6.out).mono ?_; rintro e wq ⟨rfl, oq, cq⟩; have K3 := hid (K3.out.chg cq (by have := HB3.out; have := HW.out; omega)); have BX := hid (BX.out.chg cq HBB.out); have HG := hid (HG.out.trans cq); have HS := hid (Nat.le_trans HS.out cq.size); have K6 := hid oq; have q0 : wq.cell? ⟨B3, 0, none⟩ = some (.pointer (some ⟨b, 0, none⟩)) := K3.out.1.2 0 (by simp); have q1 : wq.cell? ⟨B3, 1, none⟩ = some (.pointer (some ⟨b, l, none⟩)) := K3.out.1.2 1 (by simp); clear oq cq) | (refine wpList_store_part rfl 60 _ _ rfl B6 [] [.pointer (some ⟨b, 0, none⟩), .pointer (some ⟨b, lw, none⟩)] [.int .i64 (m + 1 : Nat)] [.pointer (some ⟨b, 0, none⟩), .pointer (some ⟨b, l, none⟩)] _ (by exact K6.out) rfl rfl rfl rfl (by kernel_rfl) rfl ?_))
        intro w7 o7 C7
        have K67 := hid (show BoxF w7 B6 [.pointer (some ⟨b, 0, none⟩), .pointer (some ⟨b, l, none⟩), .int .i64 (m + 1 : Nat)] from o7)
        have BX7 := hid (BX.out.chg C7 HBB.out)
        have K37 := hid (K3.out.chg C7 (by have := HB3.out; have := HW.out; omega))
        have HG7 := hid (HG.out.trans C7)
        have HS7 := hid (Nat.le_trans HS.out C7.size)
        have q0 : w7.cell? ⟨B3, 0, none⟩ = some (.pointer (some ⟨b, 0, none⟩)) := K37.out.1.2 0 (by simp)
        have q1 : w7.cell? ⟨B3, 1, none⟩ = some (.pointer (some ⟨b, l, none⟩)) := K37.out.1.2 1 (by simp)
        clear o7 C7 K6 BX K3 HG HS
        obtain ⟨W8, hW8⟩ : ∃ X, w7.alloc (.cells #[.pointer (some ⟨b, 0, none⟩), .pointer (some ⟨b, l, none⟩)] 60) = X := ⟨_, rfl⟩
        have hb8 : Below w7.heap.size w7 W8 := by rw [← hW8]; exact (Below.refl _ _).alloc (Nat.le_refl _) _
        have K8 := hid (show BoxF W8 w7.heap.size [.pointer (some ⟨b, 0, none⟩), .pointer (some ⟨b, l, none⟩)] by rw [← hW8]; exact BoxF.alloc w7 #[.pointer (some ⟨b, 0, none⟩), .pointer (some ⟨b, l, none⟩)] 60)
        have K68 := hid (K67.out.below hb8)
        have BX8 := hid (BX7.out.below hb8)
        have HG8 := hid (HG7.out.trans (ChgS.of_below hb8 _))
        have HW8 := hid hW8
        have r0 : W8.cell? ⟨B6, 0, none⟩ = some (.pointer (some ⟨b, 0, none⟩)) := K68.out.1.2 0 (by simp)
        have r1 : W8.cell? ⟨B6, 1, none⟩ = some (.pointer (some ⟨b, l, none⟩)) := K68.out.1.2 1 (by simp)
        clear hW8 hb8
        go_upto_region 3 with fail
        rw [HW8.out]
        go_wp2_with (first | (go_at_call 59; refine (HLL.out _ BX8.out).mono ?_; rintro e wq ⟨rfl, bq⟩; have K8 := hid (K8.out.below bq); have K68 := hid (K68.out.below bq); have BX8 := hid (BX8.out.below bq); have HG8 := hid (HG8.out.trans (ChgS.of_below bq _)); clear bq) | (refine wpList_store_box rfl 60 _ _ rfl w7.heap.size [.pointer (some ⟨b, 0, none⟩), .pointer (some ⟨b, l, none⟩)] [.pointer (some ⟨b, 0, none⟩), .pointer (some ⟨b, j * 4 + 2, none⟩)] (by exact K8.out) rfl rfl rfl (by kernel_rfl) rfl ?_))
        intro w9 o9 C9
        have K9 := hid o9
        have HN7 := hid (show B6 < w7.heap.size from K67.out.1.1)
        have HN8 := hid (show b < w7.heap.size from BX7.out.1.1)
        have K69 := hid (K68.out.chg C9 (by have := HN7.out; omega))
        have BX9 := hid (BX8.out.chg C9 (by have := HN8.out; omega))
        have HG9 := hid (chg_on HG8.out C9 (fun b hb hl => by have := HS7.out; omega))
        have m9 : w9.cell? ⟨B6, 2, none⟩ = some (.int .i64 (m + 1 : Nat)) := K69.out.1.2 2 (by simp)
        clear o9 C9
        go_wp2
        go_roundw
        case rel => exact ⟨w7.heap.size, j * 4 + 2, _, m + 1, l, ys, rfl, by omega, HS7.out, K9, K69, BX9, HLN, H3, HGN, HG9, hid HG9.out.size⟩
        case measure => rw [m9, hmz.out]; simp; omega
end Go.Proofs.Ytcjeafhejkppeaa
