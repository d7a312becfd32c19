/- Chapter 16's program: a set that belongs to one call: copied, a bucket of it, a value put. -/
import Derived.Test.YtdgmbcmgjadoiaaI16
import Derived.Test.YtdgmbcmgjadoiaaO16b
namespace Go.Proofs.Ytdgmbcmgjadoiaa
set_option maxRecDepth 100000
open Go.RowKit Go.Proofs Go.Own
open Go Go.BigFrame
set_option linter.unusedVariables false
set_option linter.unusedSimpArgs false
/-- The set in its box: the lock's state, the buckets of the call's own. -/
def LkS (B lo : Nat) (st : Int) (S : Nat → Prop) (w : World) (s : List RowD) : Prop := ∃ (g c : Nat), BoxF w B [.int .i32 st, .int .u32 0, .slice (some ⟨g, 0, none⟩) s.length c] ∧ ownL S w (.slice (some ⟨g, 0, none⟩) s.length c) s ∧ (∀ b, S b → lo ≤ b ∧ b < w.heap.size ∧ b ≠ B) ∧ lo ≤ B
theorem infoRow16 : (Try.prog.info? 22).map (fun i => (i.zero, i.size, i.bytes)) = some (some (.slice none 0 0), 1, 24) := by kernel_rfl
theorem LkS.chg {B lo : Nat} {st : Int} {S : Nat → Prop} {w w' : World} {s : List RowD} (h : LkS B lo st S w s) (b : Below w.heap.size w w') : LkS B lo st S w' s := by
  obtain ⟨g, c, h1, h2, h3, h4⟩ := h
  exact ⟨g, c, h1.below b, h2.keep fun k hk => b.block k (h3 k hk).2.1, fun k hk => ⟨(h3 k hk).1, Nat.lt_of_lt_of_le (h3 k hk).2.1 b.size, (h3 k hk).2.2⟩, h4⟩
set_option maxHeartbeats 8000000 in
theorem impl_bucketOf (B g c : Nat) (n : Nat) (u0 : Value) (st : Int) (x : Int) (hn : 0 < n) (hn8 : n ≤ 1048576) (w : World) (h : BoxF w B [.int .i32 st, u0, .slice (some ⟨g, 0, none⟩) n c]) :
    Calls Try.prog 73 #[.pointer (some ⟨B, 0, none⟩), .int .i64 x] w fun e w' => e = .returned (.pointer (some ⟨g, plc x n, none⟩)) ∧ Below w.heap.size w w' := by
  have k2 : ∀ E : Ext w, E.w.cell? ⟨B, 2, none⟩ = some (.slice (some ⟨g, 0, none⟩) n c) := Ext.cell h.1.1 (h.1.2 2 (by simp))
  have hp := plc_lt x hn
  have HPL := hid (fun w => impl_bucketPlace x n hn hn8 w)
  generalize plc x n = p at *
  have hpi : (p : Int) < (n : Int) := by omega
  clear h
  go_enter Try.func73, Try.ntmps73
  go_upto_region 1 with fail
  refine wp_region_ext w (Below.refl _ _) (by kernel_rfl) (by kernel_rfl) ?_
  repeat (go_big_quiet_step (first | (go_at_call 55; exact call_ext_same _ (HPL.out _))))
  refine wpQuiet_nil ?_; rintro _ ⟨E, rfl⟩
  go_wp2
  go_ret
  exact ⟨rfl, E.h⟩
set_option maxHeartbeats 8000000 in
theorem impl_copySet (s : List RowD) (v : Value) (w : World) (h : rdsL w v s) (hb : IntSSB s) :
    Calls Try.prog 59 #[v] w fun e w' => ∃ (B : Nat) (S : Nat → Prop), e = .returned (.pointer (some ⟨B, 0, none⟩)) ∧ LkS B w.heap.size 0 S w' s ∧ Below w.heap.size w w' := by
  obtain ⟨i0, hi, hz0, hz1, hz2⟩ := info_parts infoRow16
  obtain ⟨j0, hj, hy0, hy1, hy2⟩ := info_parts infoInt0
  have HBT := hid (fun i hi => intSSB_at hb i hi)
  have hsl : s.length ≤ 1048576 := by unfold IntSSB szIntSSD at hb; omega
  obtain ⟨a, cap, rfl, hl9, hm9, hc⟩ := ss_open h
  have HC := hid hc
  clear hc h hb
  go_enter Try.func59, Try.ntmps59
  go_wp2_with (at_make; refine wpList_make_full _ rfl _ _ 34 rfl (w.heap.size) 22 i0 (.slice none 0 0) 1 Try.underlying34 hi hz0 hz1 _ _ _ _ s.length rfl rfl rfl rfl (by rw [hz2]; omega) (by unfold maxLen; omega) (Nat.le_refl _) ?_)
  intro w1 hown hgrow
  have hB1 := (Below.refl w.heap.size w).grown hgrow (Nat.le_refl _) (by simp)
  have HO1 := hid (rows_zero (by have z := hown; rw [toList_madeCells_one] at z; exact z))
  have hgl : w.heap.size < w1.heap.size := (owns_lt hown).2
  clear hown hgrow
  go_wp2
  go_loopw [11] (fun b wr => ∃ (k : Nat) (X : List RowD), k ≤ s.length ∧ b = .int .i64 k ∧ X.length = s.length ∧ Hid (∀ j (h : j < X.length) (h2 : j < s.length), X[j] = if j < k then s[j] else ⟨[]⟩) ∧ Hid (ownL (Rg w.heap.size wr.heap.size) wr (.slice (some ⟨w.heap.size, 0, none⟩) s.length s.length) X) ∧ Below w.heap.size w wr) (fun b _ => s.length - (intOf b).toNat)
  case atStart => exact ⟨0, emptyS s.length, by omega, rfl, by simp [emptyS], hid (fun j h h2 => by simp [emptyS]), HO1, hB1⟩
  case round =>
    clear HO1 hB1 hgl
    obtain ⟨k, X, hk, rfl, hX, HX, HO, hB⟩ := hrel
    by_cases hlt : k < s.length
    · obtain ⟨bb, off, b2, c2, xs, hxs, rfl, hbs, c0, hI⟩ := HC.out k hlt
      have q0 := (hB.cell (p := ⟨bb, off + k, none⟩) hbs).trans c0
      have hI2 := Ints.below hI hB
      have hxl : xs.length ≤ 1048576 := by have := HBT.out k hlt; unfold IntSB at this; rw [hxs] at this; exact this
      have Hel := hid (show s[k] = ⟨xs⟩ by cases h9 : s[k]; rw [h9] at hxs; cases hxs; rfl)
      obtain ⟨g, c3, u, Ri, ys, hys, hv, hSg, cg, fg, oR, hRi, hst, hfin⟩ := rows_at HO.out (fun b hb => hb.2) k (by omega)
      obtain ⟨hg9, hc39⟩ : (⟨w.heap.size, 0, none⟩ : Addr) = ⟨g, 0, none⟩ ∧ s.length = c3 := by simp only [Value.slice.injEq, Option.some.injEq] at hv; exact ⟨hv.1, hv.2.2⟩
      obtain rfl : g = w.heap.size := by simpa using hg9.symm
      have HFIN := hid hfin
      have HST := hid hst
      have HB := hid hB
      have hone := hid (oneCell_enc oneCell_I xs)
      have hnil : wr.ownsRow wr.heap.size 3 1 (.slice none 0 0) 0 [] := World.ownsRow_nil _ _ _ _
      have HXl := hid hX
      clear hfin hst hv hg9 hc39 oR c0 hI HC hxs hX hys cg fg HO hB
      go_wp2_with (at_builtin; refine wpList_append_flat rfl _ _ 22 rfl wr.heap.size 3 j0 (.int .i64 0) 1 8 Try.underlying22 hj hy0 hy1 hy2 rfl (by decide) _ _ _ rfl hnil _ _ _ rfl hI2 hone.out (by unfold maxLen; omega) (by omega) (Nat.le_refl _) ?_)
      intro v2 w2 o2 g2
      obtain ⟨r2, m2, n2, rfl⟩ := owns_form3 o2
      have b2' := below_of_mark hnil g2 (Nat.le_refl _) (Nat.le_refl _)
      have o2' : w2.ownsRow wr.heap.size 3 1 (.slice r2 m2 n2) xs.length (xs.flatMap Go.Own.encI) := by simpa using o2
      obtain ⟨⟨y5, k5⟩, f5⟩ := HST.out w2 (ChgS.of_below b2' _)
      have O9 := HFIN.out w2 (.slice r2 m2 n2) ⟨xs⟩ _ (ChgS.of_below b2' _) (ownInt_of o2') (fun b hb => .inr hb.1)
      obtain ⟨W9, hW9⟩ : ∃ X, w2.setCell ⟨w.heap.size, k, none⟩ (.slice r2 m2 n2) = X := ⟨_, rfl⟩
      have hs9 : W9.heap.size = w2.heap.size := by rw [← hW9]; simp [World.setCell]
      have hs2 := b2'.size
      have hsB := HB.out.size
      have HO9 : Hid (ownL (Rg w.heap.size W9.heap.size) W9 (.slice (some ⟨w.heap.size, 0, none⟩) s.length s.length) (X.set k ⟨xs⟩)) := by
        rw [hW9] at O9
        exact hid (O9.mono fun b hb => by
          rcases hb with h9 | h9
          · exact ⟨h9.1, by have := h9.2; omega⟩
          · exact ⟨by have := h9.1; omega, by have := h9.2; omega⟩)
      have HB9 : Hid (Below w.heap.size w W9) := by
        rw [← hW9]
        exact hid ((HB.out.trans (b2'.mono HB.out.size)).setCell (Nat.le_refl _) _)
      have HX9 := hid (show ∀ j (h : j < (X.set k (⟨xs⟩ : RowD)).length) (h2 : j < s.length), (X.set k (⟨xs⟩ : RowD))[j] = if j < k + 1 then s[j] else ⟨[]⟩ from fun j h h2 => by
        by_cases e : k = j
        · subst e; rw [List.getElem_set_self, if_pos (by omega), Hel.out]
        · rw [List.getElem_set_ne e, HX.out j (by rw [List.length_set] at h; exact h) h2]
          by_cases hq : j < k
          · rw [if_pos hq, if_pos (by omega)]
          · rw [if_neg hq, if_neg (by omega)])
      have HW9 := hid hW9
      clear hW9 O9 HFIN HST o2 o2' b2' g2 hnil
      go_wp2
      rw [HW9.out]
      go_roundw
      case rel => exact ⟨k+1, _, by omega, by go_num, by rw [List.length_set]; exact HXl.out, HX9, HO9, HB9.out⟩
      case measure => simp [intOf]; omega
    · obtain rfl : k = s.length := by omega
      have Hxe := hid (show X = s from List.ext_getElem hX fun j h h2 => by rw [HX.out j h h2, if_pos h2])
      have HO9 : Hid (ownL (Rg w.heap.size wr.heap.size) wr (.slice (some ⟨w.heap.size, 0, none⟩) s.length s.length) s) := by
        have z := HO.out
        rw [Hxe.out] at z; exact hid z
      have HB := hid hB
      have b9 : Below wr.heap.size wr (wr.alloc (.cells #[.int .i32 0, .int .u32 0, .slice (some ⟨w.heap.size, 0, none⟩) s.length s.length] 67)) := (Below.refl _ _).alloc (Nat.le_refl _) _
      have bx := BoxF.alloc wr #[.int .i32 0, .int .u32 0, .slice (some ⟨w.heap.size, 0, none⟩) s.length s.length] 67
      have hL : LkS wr.heap.size w.heap.size 0 (Rg w.heap.size wr.heap.size) (wr.alloc (.cells #[.int .i32 0, .int .u32 0, .slice (some ⟨w.heap.size, 0, none⟩) s.length s.length] 67)) s :=
        ⟨w.heap.size, s.length, bx, HO9.out.keep (keep_rg b9 (Nat.le_refl _)), fun b hb => ⟨hb.1, by have := hb.2; have := b9.size; omega, by have := hb.2; omega⟩, HB.out.size⟩
      have HL := hid hL
      have HBF := hid (HB.out.trans (b9.mono HB.out.size))
      clear HO HX hX HC hB b9 bx hL
      go_wp2
      go_ret
      exact ⟨wr.heap.size, _, rfl, HL.out, HBF.out⟩
set_option maxHeartbeats 8000000 in
theorem impl_put (B lo : Nat) (st : Int) (s : List RowD) (x : Int) (hn : 0 < s.length) (hn8 : s.length ≤ 1048576) (S : Nat → Prop) (w : World) (h : LkS B lo st S w s)
    (ha : (bktAt s x).Pairwise (· ≤ ·)) (hbl : (bktAt s x).length ≤ 1000) :
    Calls Try.prog 75 #[.pointer (some ⟨B, 0, none⟩), .int .i64 x] w fun e w' => ∃ S' : Nat → Prop, e = .returned (.tuple #[]) ∧ LkS B lo st S' w' (putAt s x) ∧ (∀ b, S' b → S b ∨ (w.heap.size ≤ b ∧ b < w'.heap.size)) ∧ ChgS S w w' := by
  obtain ⟨g, c, hbx, hO, hS, hloB⟩ := h
  have hp := plc_lt x hn
  have HBK := hid (fun w (h : BoxF w B [.int .i32 st, .int .u32 0, .slice (some ⟨g, 0, none⟩) s.length c]) => impl_bucketOf B g c s.length (.int .u32 0) st x hn hn8 w h)
  have Hbk := bktAt_eq x hp
  obtain ⟨p, hpe⟩ : ∃ p, plc x s.length = p := ⟨_, rfl⟩
  have HPE := hid hpe
  have hp2 : p < s.length := by rw [← hpe]; exact hp
  have HPS := hid (putAt_set s x p hp2 HPE.out)
  have Hb2 : bktAt s x = s[p].xs_ := by subst hpe; exact Hbk
  rw [Hb2] at ha hbl
  rw [hpe] at HBK
  clear Hbk Hb2 hp hpe
  go_enter Try.func75, Try.ntmps75
  go_wp2_with fail
  refine (HBK.out _ hbx).mono ?_
  rintro e w2 ⟨rfl, b2⟩
  have HB2 := hid b2
  have bx2 := hbx.below b2
  have hO2 := hO.keep (fun k hk => b2.block k (hS k hk).2.1)
  have hS2 : ∀ b, S b → b < w2.heap.size := fun b hb => Nat.lt_of_lt_of_le (hS b hb).2.1 b2.size
  obtain ⟨g2, c3, u, Ri, ys, hys, hv, hSg, cg, fg, oR, hRi, hst, hfin⟩ := rows_at hO2 hS2 p hp2
  obtain ⟨hg9, hc39⟩ : (⟨g, 0, none⟩ : Addr) = ⟨g2, 0, none⟩ ∧ c = c3 := by simp only [Value.slice.injEq, Option.some.injEq] at hv; exact ⟨hv.1, hv.2.2⟩
  obtain rfl : g = g2 := by simpa using hg9
  rw [hys] at ha hbl
  have HPS2 := hid (show putAt s x = s.set p ⟨putL ys x⟩ by rw [HPS.out, hys])
  obtain ⟨ya, yc, rfl, _, _⟩ := ownL_len oR
  have HRY := hid (rdsInts.1 oR.rds)
  have OR := hid oR
  have BX2 := hid bx2
  have HFIN := hid hfin
  have HST := hid hst
  have HRI := hid hRi
  have HSS := hid hS
  have hkl := cntLt_le ys x
  have HPL := hid (show putL ys x = ys.take (cntLt ys x) ++ x :: ys.drop (cntLt ys x) from rfl)
  have HSR := hid (fun w h => impl_Search ys x ha (by omega) (.slice ya ys.length yc) w h)
  have HINS := hid (fun v vb w Ri o h1 h2 => impl_Insert ys x (cntLt ys x) hkl (by omega) v vb w Ri o h1 h2)
  generalize cntLt ys x = kk at *
  generalize putL ys x = Y at *
  clear hfin hst hv hg9 hc39 oR hO hO2 hbx bx2 b2 hS2 hRi hS HPS HBK ha
  go_wp2_with fail
  refine (HSR.out _ HRY.out).mono ?_
  rintro e w3 ⟨r, rfl, q, rfl⟩
  have b3 : Below w2.heap.size w2 (w2.drewN q) := below_drewN (Below.refl _ _) q
  have cg3 : (w2.drewN q).cell? ⟨g, p, none⟩ = some (.slice ya ys.length yc) := (b3.cell (p := ⟨g, p, none⟩) (Nat.lt_of_lt_of_le (HSS.out g hSg).2.1 HB2.out.size)).trans cg
  obtain ⟨W4, hW4⟩ : ∃ X, (w2.drewN q).alloc (.cells #[.int .i64 x] 3) = X := ⟨_, rfl⟩
  have hs4 : W4.heap.size = w2.heap.size + 1 := by rw [← hW4]; simp
  have b24 : Below w2.heap.size w2 W4 := by rw [← hW4]; exact b3.alloc (by simp) _
  have hlit : W4.heap[w2.heap.size]? = some (.cells #[.int .i64 x] 3 (0, 0)) := by
    rw [← hW4]
    have z := heap_alloc_new (w2.drewN q) (.cells #[.int .i64 x] 3)
    rw [show (w2.drewN q).heap.size = w2.heap.size by simp] at z
    exact z
  have hRlt : ∀ b, Ri b → b < W4.heap.size ∧ b ≠ w2.heap.size := fun b hb => by
    have h1 := (HSS.out b (HRI.out b hb).1).2.1
    have h2 := HB2.out.size
    omega
  have HIN := hid (HINS.out (.slice ya ys.length yc) w2.heap.size W4 Ri (OR.out.keep fun b hb => b24.block b (by have := (hRlt b hb); omega)) hRlt hlit)
  have hW4' := hW4
  clear HINS HSR cg hlit hRlt
  go_wp2_with fail
  refine HIN.out.mono ?_
  rintro e w5 ⟨u5, T, rfl, oT, hT, C5⟩
  rw [← HPL.out] at oT
  have C25 := hid ((ChgS.of_below b24 Ri).trans C5)
  obtain ⟨va, vc, rfl, -, -⟩ := ownL_len oT
  obtain ⟨⟨y7, k7⟩, f7⟩ := HST.out w5 C25.out
  have O9 := HFIN.out w5 (.slice va Y.length vc) ⟨Y⟩ T C25.out oT (fun b hb => (hT b hb).imp id fun h9 => by omega)
  obtain ⟨W9, hW9⟩ : ∃ X, w5.setCell ⟨g, p, none⟩ (.slice va Y.length vc) = X := ⟨_, rfl⟩
  have hs9 : W9.heap.size = w5.heap.size := by rw [← hW9]; simp [World.setCell]
  have hs25 := C25.out.size
  have hgB : g ≠ B := (HSS.out g hSg).2.2
  have hnB : ¬ Ri B := fun e => (HSS.out B (HRI.out B e).1).2.2 rfl
  have bx5 := BX2.out.chg C25.out hnB
  have hL9 : LkS B lo st (fun b => S b ∨ T b) W9 (putAt s x) := by
    rw [hW9] at O9
    have hlen : (putAt s x).length = s.length := putAt_len s x
    refine ⟨g, c, ?_, ?_, ?_, hloB⟩
    · rw [hlen, ← hW9]; exact bx5.other ⟨g, p, none⟩ _ (by show g ≠ B; exact hgB)
    · rw [hlen, HPS2.out]; exact O9
    · intro b hb
      have h2s := HB2.out.size
      rcases hb with h9 | h9
      · have z := HSS.out b h9
        exact ⟨z.1, by omega, z.2.2⟩
      · rcases hT b h9 with h8 | h8
        · have z := HSS.out b (HRI.out b h8).1
          exact ⟨z.1, by omega, z.2.2⟩
        · have z := BX2.out.1.1
          exact ⟨by omega, by omega, by omega⟩
  have HL9 := hid hL9
  have HB9 : Hid (ChgS S w W9) := by
    rw [← hW9]
    exact hid (((ChgS.of_below HB2.out S).trans (C25.out.mono (fun b hb => (HRI.out b hb).1))).set _ _ hSg)
  have HT9 := hid (show ∀ b, (S b ∨ T b) → S b ∨ (w.heap.size ≤ b ∧ b < W9.heap.size) from fun b hb => by
    rcases hb with h9 | h9
    · exact .inl h9
    · rcases hT b h9 with h8 | h8
      · exact .inl (HRI.out b h8).1
      · have := HB2.out.size; exact .inr ⟨by omega, by omega⟩)
  have HW9 := hid hW9
  clear hW9 O9 HFIN HST HIN oT C5 bx5 hL9
  go_wp2
  go_end0
  exact ⟨_, rfl, by rw [HW9.out]; exact HL9.out, by rw [HW9.out]; exact HT9.out, by rw [HW9.out]; exact HB9.out⟩
end Go.Proofs.Ytdgmbcmgjadoiaa
