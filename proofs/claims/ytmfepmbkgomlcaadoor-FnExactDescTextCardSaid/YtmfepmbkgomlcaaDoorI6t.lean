/- Chapter 6's program: DescText. -/
import Derived.Test.YtmfepmbkgomlcaaDoorI6e
import Derived.Test.YtmfepmbkgomlcaaDoorS6t
import Derived.Test.YtmfepmbkgomlcaaDoorShelf
import Derived.Lib.AppendIntMem
namespace Go.Proofs.YtmfepmbkgomlcaaDoor
set_option maxRecDepth 100000
open Go.RowKit Go.Proofs Go.Own
open Go Go.BigFrame Go.Shelf
set_option linter.unusedVariables false
set_option linter.unusedSimpArgs false
/-- The table that Itoa reads. -/
abbrev Tab (w : World) : Prop := Lib.TabIs Tryd.prog w "internal/strconv.uint64pow10" .u64 Lib.pow10Tab
theorem tab_below {w w' : World} (h : Tab w) (hb : Below w.heap.size w w') : Tab w' := Lib.tabBelow_of_tabIs h w' hb
theorem Ext.tab {W : World} (h : Tab W) : ∀ e : Ext W, Tab e.w := fun e => tab_below h e.h
theorem itoaT (x : Int) (w : World) (h1 : -1000000000 ≤ x) (h2 : x ≤ 1000000000) (ht : Tab w) :
    Calls Tryd.prog 14 #[.int .i64 x] w fun e w' => e = .returned (.string (itoaB x)) ∧ Below w.heap.size w w' := by
  refine (Tryd.strconv_Itoa x (by omega) (by omega) w ht).mono ?_
  rintro e w' ⟨rfl, k, os, rfl⟩
  exact ⟨rfl, Lib.below_grow _ _ (Nat.le_refl _) _ _⟩
/-- An entry's text. -/
def entT (e : Entry) : ByteArray := itoaB e.object_ ++ ((⟨#[64]⟩ : ByteArray) ++ (itoaB e.version_ ++ ((⟨#[58]⟩ : ByteArray) ++ (itoaB e.old_ ++ (if e.write_ = true then (⟨#[62]⟩ : ByteArray) ++ itoaB e.new_ else ByteArray.empty)))))
theorem entP_eq (e : Entry) : entP e = (⟨#[32]⟩ : ByteArray) ++ entT e := rfl
theorem entT_size {e : Entry} (h : entryOk e = true) : (entT e).size ≤ 59 := by
  have := (entryOk_size h).2.2.2.2
  rw [entP_eq, ByteArray.size_append] at this
  have e1 : (⟨#[32]⟩ : ByteArray).size = 1 := rfl
  omega
set_option maxHeartbeats 4000000 in
theorem impl_entryText (e : Entry) (w : World) (hk : entryOk e = true) (ht0 : Tab w) :
    Calls Tryd.prog 16 #[.agg #[.int .i64 e.object_, .int .i64 e.version_, .int .i64 e.old_, .int .i64 e.new_, .bool e.write_]] w fun r w' => r = .returned (.string (entT e)) ∧ Below w.heap.size w w' := by
  obtain ⟨z1, z2, z3, z4, z5⟩ := entryOk_size hk
  obtain ⟨⟨r1, r2⟩, ⟨r3, r4⟩, ⟨r5, r6⟩, ⟨r7, r8⟩, _⟩ := entryOk_iff.1 hk
  have p1 : -1000000000 ≤ e.object_ := by omega
  have p2 : e.object_ ≤ 1000000000 := by omega
  have p3 : -1000000000 ≤ e.version_ := by omega
  have p4 : e.version_ ≤ 1000000000 := by omega
  have hE := hid (show entT e = itoaB e.object_ ++ ((⟨#[64]⟩ : ByteArray) ++ (itoaB e.version_ ++ ((⟨#[58]⟩ : ByteArray) ++ (itoaB e.old_ ++ (if e.write_ = true then (⟨#[62]⟩ : ByteArray) ++ itoaB e.new_ else ByteArray.empty))))) from rfl)
  clear r1 r2 r3 r4 hk
  obtain ⟨a0, a1, a2, a3, b⟩ := e
  dsimp only at *
  obtain ⟨V, hV⟩ : ∃ X, w.alloc (.cells #[.int .i64 a0, .int .i64 a1, .int .i64 a2, .int .i64 a3, .bool b] 38) = X := ⟨_, rfl⟩
  have bV : Below w.heap.size w V := by rw [← hV]; exact (Below.refl _ _).alloc (Nat.le_refl _) _
  have hNV : w.heap.size < V.heap.size := by rw [← hV]; simp
  have k0 : V.cell? ⟨w.heap.size, 0, none⟩ = some (.int .i64 a0) := by rw [← hV]; simp [go_sem]
  have k1 : V.cell? ⟨w.heap.size, 1, none⟩ = some (.int .i64 a1) := by rw [← hV]; simp [go_sem]
  have k2 : V.cell? ⟨w.heap.size, 2, none⟩ = some (.int .i64 a2) := by rw [← hV]; simp [go_sem]
  have k3 : V.cell? ⟨w.heap.size, 3, none⟩ = some (.int .i64 a3) := by rw [← hV]; simp [go_sem]
  have k4 : V.cell? ⟨w.heap.size, 4, none⟩ = some (.bool b) := by rw [← hV]; simp [go_sem]
  have x0 := Ext.cell hNV k0
  have x1 := Ext.cell hNV k1
  have x2 := Ext.cell hNV k2
  have x3 := Ext.cell hNV k3
  have x4 := Ext.cell hNV k4
  have ht := tab_below ht0 bV
  have HBV := hid bV
  go_enter Tryd.func16, Tryd.ntmps16
  go_wp2_with fail
  clear hV k0 k1 k2 k3 k4
  refine wp_region_ext V (Below.refl _ _) (by kernel_rfl) (by kernel_rfl) ?_
  repeat (go_big_quiet_step (first | (go_at_call 14; exact call_ext _ (itoaT _ _ (by assumption) (by assumption) (Ext.tab ht _)))))
  refine wpQuiet_nil ?_
  rintro _ ⟨E, rfl⟩
  have hBE := hid (HBV.out.trans (E.h.mono HBV.out.size))
  have w3 := x3 E
  have w4 := x4 E
  have ht2 := Ext.tab ht E
  clear x0 x1 x2 x3 x4
  have c64 : (⟨#[64]⟩ : ByteArray).size = 1 := rfl
  have c58 : (⟨#[58]⟩ : ByteArray).size = 1 := rfl
  generalize hA2 : itoaB a0 ++ (⟨#[64]⟩ : ByteArray) ++ itoaB a1 ++ (⟨#[58]⟩ : ByteArray) ++ itoaB a2 = A2
  have hA2s : A2.size ≤ 1000 := by rw [← hA2]; simp only [ByteArray.size_append, c64, c58]; omega
  have HA2 := hid hA2
  clear hA2 c64 c58
  cases b with
  | false =>
    have He := hid (show entT ⟨a0, a1, a2, a3, false⟩ = A2 by
      rw [hE.out, ← HA2.out]; simp only [ByteArray.append_assoc]; rw [if_neg (by simp), ByteArray.append_empty])
    go_wp2
    go_ret
    exact ⟨ret_str He.out.symm, hBE.out⟩
  | true =>
    have He := hid (show entT ⟨a0, a1, a2, a3, true⟩ = A2 ++ ((⟨#[62]⟩ : ByteArray) ++ itoaB a3) by
      rw [hE.out, ← HA2.out]; simp only [ByteArray.append_assoc, if_true])
    have y2 : ¬ (9223372036854775807 < 1 + (itoaB a3).size) := by omega
    have y3 : ¬ (9223372036854775807 < A2.size + (1 + (itoaB a3).size)) := by omega
    go_wp2_with fail
    refine (itoaT _ _ r7 r8 ht2).mono ?_
    rintro e w5 ⟨rfl, b5⟩
    have hB5 := hid (hBE.out.trans (b5.mono hBE.out.size))
    go_wp2
    go_ret
    exact ⟨ret_str He.out.symm, hB5.out⟩
set_option maxHeartbeats 8000000 in
theorem impl_DescText0 (ow st : Int) (v : Value) (xs : List Entry) (w : World) (h : Entrys w v xs) (htw : Tab w) :
    Calls Tryd.prog 7 #[.agg #[.int .i64 ow, .int .i64 st, v]] w fun e w' => e = .returned (.string (descT ow st xs)) ∧ Below w.heap.size w w' := by
  have H0 := hid h
  obtain ⟨ad, cap, rfl, hl, hm, hc⟩ := h.open
  clear h
  have hlen : xs.length ≤ 9223372036854775807 := by omega
  have HC := hid hc
  clear hc
  obtain ⟨W1, hW1⟩ : ∃ X, w.alloc (.cells #[.int .i64 ow, .int .i64 st, Value.slice ad xs.length cap] 29) = X := ⟨_, rfl⟩
  have hB1 : Below w.heap.size w W1 := by rw [← hW1]; exact (Below.refl _ _).alloc (Nat.le_refl _) _
  have hN : w.heap.size < W1.heap.size := by rw [← hW1]; simp
  have k0 : W1.cell? ⟨w.heap.size, 0, none⟩ = some (.int .i64 ow) := by rw [← hW1]; simp [go_sem]
  have k1 : W1.cell? ⟨w.heap.size, 1, none⟩ = some (.int .i64 st) := by rw [← hW1]; simp [go_sem]
  have k2 : W1.cell? ⟨w.heap.size, 2, none⟩ = some (Value.slice ad xs.length cap) := by rw [← hW1]; simp [go_sem]
  have h1 := hid (Entrys.below H0.out hB1)
  go_enter Tryd.func7, Tryd.ntmps7
  go_wp2_with fail
  clear hW1
  refine (impl_DescOk0 ow st _ xs _ h1.out).mono ?_
  rintro e w2 ⟨rfl, b2⟩
  have hB2 := hB1.trans (b2.mono hB1.size)
  have l0 := (b2.cell (p := ⟨w.heap.size, 0, none⟩) hN).trans k0
  have l1 := (b2.cell (p := ⟨w.heap.size, 1, none⟩) hN).trans k1
  have l2 := (b2.cell (p := ⟨w.heap.size, 2, none⟩) hN).trans k2
  have hN2 := Nat.lt_of_lt_of_le hN b2.size
  have ht := tab_below htw hB2
  clear k0 k1 k2 b2 h1 hB1 hN
  cases hD : descOk ow st xs with
  | false =>
    go_wp2
    go_ret
    exact ⟨ret_str (by unfold descT; rw [hD]; rfl), hB2⟩
  | true =>
  obtain ⟨⟨o1, o2⟩, ⟨s1, s2⟩, hO⟩ := desc_parts hD
  have hT := hid (show descT ow st xs = textGo xs (headT ow st) by unfold descT; rw [if_pos hD])
  have hEn := hid (fun k hk => (openOk_at hO k hk).1)
  have h6 := openOk_len hO
  have q1 : -1000000000 ≤ ow := by omega
  have q2 : ow ≤ 1000000000 := by omega
  have sz1 := itoaB_size q1 q2
  have sz2 := stW_size st
  clear hD hO
  have x0 := Ext.cell hN2 l0
  have x1 := Ext.cell hN2 l1
  have x2 := Ext.cell hN2 l2
  go_wp2_with fail
  refine wp_region_ext w2 (Below.refl _ _) (by kernel_rfl) (by kernel_rfl) ?_
  repeat (go_big_quiet_step (first | (go_at_call 14; exact call_ext _ (itoaT _ _ (by assumption) (by assumption) (Ext.tab ht _))) | (go_at_call 15; exact call_ext_same _ (impl_statusWord _ _))))
  refine wpQuiet_nil ?_
  rintro _ ⟨E0, rfl⟩
  have hBc := E0.h
  have m2 := x2 E0
  have hz := hid (show (headT ow st).size ≤ 40 by
    unfold headT; rw [ByteArray.size_append, ByteArray.size_append]
    have e : (⟨#[32]⟩ : ByteArray).size = 1 := rfl
    omega)
  have Hh := hid (show itoaB ow ++ (⟨#[32]⟩ : ByteArray) ++ stW st = headT ow st by unfold headT; rw [ByteArray.append_assoc])
  rw [Hh.out]
  clear x0 x1 x2 l0 l1
  go_wp2
  go_loopw [3, 20] (fun s i wr => ∃ (k : Nat) (A : ByteArray), k ≤ xs.length ∧ i = .int .i64 k ∧ s = .string A ∧ A.size ≤ 40 + 60 * k ∧ Same (textGo (xs.drop k) A) (textGo xs (headT ow st)) ∧ Below w2.heap.size w2 wr) (fun _ i _ => xs.length - (intOf i).toNat)
  case atStart => exact ⟨0, headT ow st, by omega, rfl, rfl, by have := hz.out; omega, .rfl, hBc⟩
  case round =>
    clear hBc m2
    obtain ⟨k, A, hk, rfl, rfl, hA, hS, hB⟩ := hrel
    have hBr : Below w.heap.size w wr := hB2.trans (hB.mono (by omega))
    by_cases hlt : k < xs.length
    · obtain ⟨bb, off, rfl, hbs, c0, c1, c2, c3, c4⟩ := HC.out k hlt
      obtain ⟨e0, e1, e2, e3, e4⟩ := cells5 hBr hbs c0 c1 c2 c3 c4
      have hst := hid (textGo_step xs k hlt A)
      obtain ⟨V, hV⟩ : ∃ X, wr.alloc (.cells #[.int .i64 xs[k].object_, .int .i64 xs[k].version_, .int .i64 xs[k].old_, .int .i64 xs[k].new_, .bool xs[k].write_] 38) = X := ⟨_, rfl⟩
      have bV : Below wr.heap.size wr V := by rw [← hV]; exact (Below.refl _ _).alloc (Nat.le_refl _) _
      have HBV := hid (show Below w2.heap.size w2 V from hB.trans (bV.mono hB.size))
      have htV := tab_below ht HBV.out
      have HV := hid hV
      have hsz := entT_size (hEn.out k hlt)
      have hP := hid (entP_eq xs[k])
      clear hV c0 c1 c2 c3 c4 HC bV
      have y1 : ¬ (9223372036854775807 < 1 + (entT xs[k]).size) := by omega
      have y2 : ¬ (9223372036854775807 < A.size + (1 + (entT xs[k]).size)) := by omega
      go_wp2_with fail
      rw [HV.out]
      refine (impl_entryText xs[k] _ (hEn.out k hlt) htV).mono ?_
      rintro e w5 ⟨rfl, b5⟩
      have hB5 := hid (HBV.out.trans (b5.mono HBV.out.size))
      have He := hid (show A ++ entP xs[k] = A ++ ((⟨#[32]⟩ : ByteArray) ++ entT xs[k]) by rw [hP.out])
      have hs5 := hid (show (A ++ ((⟨#[32]⟩ : ByteArray) ++ entT xs[k])).size ≤ 40 + 60 * (k + 1) by
        rw [ByteArray.size_append, ByteArray.size_append]
        have e : (⟨#[32]⟩ : ByteArray).size = 1 := rfl
        omega)
      clear e0 e1 e2 e3 e4
      go_wp2
      go_roundw
      case rel => exact ⟨k+1, _, by omega, by go_num, rfl, hs5.out, Same.mk (by have h9 := hS.out; rw [hst.out, He.out] at h9; exact h9), hB5.out⟩
      case measure => simp [intOf]; omega
    · have Hn := hid (show descT ow st xs = A by rw [hT.out, ← hS.out, List.drop_eq_nil_of_le (by omega)]; rfl)
      go_wp2
      go_ret
      exact ⟨ret_str Hn.out.symm, hBr⟩
end Go.Proofs.YtmfepmbkgomlcaaDoor
