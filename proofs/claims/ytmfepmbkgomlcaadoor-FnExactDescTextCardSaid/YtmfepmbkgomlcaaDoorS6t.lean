/- Chapter 6's model: DescText. -/
import Derived.Test.YtmfepmbkgomlcaaDoorS6b
import Derived.Test.YtmfepmbkgomlcaaDoorTld6
import Derived.Test.YtmfepmbkgomlcaaDoorExt
import Derived.Deep.Cut
import Derived.Deep.CutRange
namespace Go.Proofs.YtmfepmbkgomlcaaDoor
set_option maxRecDepth 100000
open Go.RowKit Go.Proofs Go.Own
open Go Go.BigFrame
set_option linter.unusedVariables false
set_option linter.unusedSimpArgs false
/-- An entry's text, a blank ahead. -/
def entP (e : Entry) : ByteArray := (⟨#[32]⟩ : ByteArray) ++ (itoaB e.object_ ++ ((⟨#[64]⟩ : ByteArray) ++ (itoaB e.version_ ++ ((⟨#[58]⟩ : ByteArray) ++ (itoaB e.old_ ++ (if e.write_ = true then (⟨#[62]⟩ : ByteArray) ++ itoaB e.new_ else ByteArray.empty))))))
def textGo : List Entry → ByteArray → ByteArray
  | [], A => A
  | e :: es, A => textGo es (A ++ entP e)
def headT (ow st : Int) : ByteArray := itoaB ow ++ ((⟨#[32]⟩ : ByteArray) ++ stW st)
def descT (ow st : Int) (xs : List Entry) : ByteArray := if descOk ow st xs = true then textGo xs (headT ow st) else ⟨#[]⟩
theorem textGo_step (xs : List Entry) (k : Nat) (h : k < xs.length) (A : ByteArray) : textGo (xs.drop k) A = textGo (xs.drop (k+1)) (A ++ entP xs[k]) := by
  rw [List.drop_eq_getElem_cons h]; rfl
theorem entryOk_size {e : Entry} (h : entryOk e = true) : (itoaB e.object_).size ≤ 11 ∧ (itoaB e.version_).size ≤ 11 ∧ (itoaB e.old_).size ≤ 11 ∧ (itoaB e.new_).size ≤ 11 ∧ (entP e).size ≤ 60 := by
  obtain ⟨⟨a1, a2⟩, ⟨b1, b2⟩, ⟨c1, c2⟩, ⟨d1, d2⟩, _⟩ := entryOk_iff.1 h
  have s1 := itoaB_size (x := e.object_) (by omega) (by omega)
  have s2 := itoaB_size (x := e.version_) (by omega) (by omega)
  have s3 := itoaB_size c1 c2
  have s4 := itoaB_size d1 d2
  refine ⟨s1, s2, s3, s4, ?_⟩
  have e1 : (⟨#[32]⟩ : ByteArray).size = 1 := rfl
  have e2 : (⟨#[64]⟩ : ByteArray).size = 1 := rfl
  have e3 : (⟨#[58]⟩ : ByteArray).size = 1 := rfl
  have e4 : (⟨#[62]⟩ : ByteArray).size = 1 := rfl
  have e5 : ByteArray.empty.size = 0 := rfl
  unfold entP
  split
  · simp only [ByteArray.size_append, e1, e2, e3, e4]; omega
  · simp only [ByteArray.size_append, e1, e2, e3, e5]; omega
theorem stW_size (st : Int) : (stW st).size ≤ 9 := by
  unfold stW
  split
  · exact (show (9 : Nat) ≤ 9 from Nat.le_refl _)
  split
  · exact (show (9 : Nat) ≤ 9 from Nat.le_refl _)
  split
  · exact (show (6 : Nat) ≤ 9 by omega)
  · exact (show (0 : Nat) ≤ 9 by omega)
theorem desc_parts {ow st : Int} {xs : List Entry} (h : descOk ow st xs = true) : (0 ≤ ow ∧ ow ≤ 3) ∧ (0 ≤ st ∧ st ≤ 2) ∧ openOk xs = true := by
  unfold descOk at h
  simp only [Bool.and_eq_true] at h
  exact ⟨by simpa [inB] using h.1.1.1.1, by simpa [inB] using h.1.1.1.2, h.1.2⟩
set_option maxHeartbeats 8000000 in
theorem spec_DescText0 (ow st : Int) (v : Value) (xs : List Entry) (w : World) (h : Entrys w v xs) :
    Calls Tryd.prog 5 #[.agg #[.int .i64 ow, .int .i64 st, v]] w fun e w' => e = .returned (.string (descT ow st xs)) ∧ Below w.heap.size w w' := by
  have H0 := hid h
  obtain ⟨ad, cap, rfl, hl, hm, hc⟩ := h.open
  clear h
  have hlen : xs.length ≤ 9223372036854775807 := by omega
  have HC := hid hc
  clear hc
  obtain ⟨W1, hW1⟩ : ∃ X, w.alloc (.cells #[.int .i64 ow, .int .i64 st, Value.slice ad xs.length cap] 29) = X := ⟨_, rfl⟩
  have hB1 : Below w.heap.size w W1 := by rw [← hW1]; exact (Below.refl _ _).alloc (Nat.le_refl _) _
  have hN : w.heap.size < W1.heap.size := by rw [← hW1]; simp
  have k0 : W1.cell? ⟨w.heap.size, 0, none⟩ = some (.int .i64 ow) := by rw [← hW1]; simp [go_sem]
  have k1 : W1.cell? ⟨w.heap.size, 1, none⟩ = some (.int .i64 st) := by rw [← hW1]; simp [go_sem]
  have k2 : W1.cell? ⟨w.heap.size, 2, none⟩ = some (Value.slice ad xs.length cap) := by rw [← hW1]; simp [go_sem]
  have h1 := hid (Entrys.below H0.out hB1)
  go_enter Tryd.func5, Tryd.ntmps5
  go_wp2_with fail
  clear hW1
  refine (spec_DescOk0 ow st _ xs _ h1.out).mono ?_
  rintro e w2 ⟨rfl, b2⟩
  have hB2 := hB1.trans (b2.mono hB1.size)
  have l0 := (b2.cell (p := ⟨w.heap.size, 0, none⟩) hN).trans k0
  have l1 := (b2.cell (p := ⟨w.heap.size, 1, none⟩) hN).trans k1
  have l2 := (b2.cell (p := ⟨w.heap.size, 2, none⟩) hN).trans k2
  have hN2 := Nat.lt_of_lt_of_le hN b2.size
  clear k0 k1 k2 b2 h1 hB1 hN
  cases hD : descOk ow st xs with
  | false =>
    go_wp2
    go_ret
    exact ⟨ret_str (by unfold descT; rw [hD]; rfl), hB2⟩
  | true =>
  obtain ⟨⟨o1, o2⟩, ⟨s1, s2⟩, hO⟩ := desc_parts hD
  have hT := hid (show descT ow st xs = textGo xs (headT ow st) by unfold descT; rw [if_pos hD])
  have hEn := hid (fun k hk => (openOk_at hO k hk).1)
  have h6 := openOk_len hO
  have sz1 := itoaB_size (x := ow) (by omega) (by omega)
  have sz2 := stW_size st
  clear hD hO
  go_upto_region 3 with fail
  go_cut [3] from 9 to 18 (fun s3 wx => s3 = .string (headT ow st) ∧ Below w2.heap.size w2 wx)
  case first =>
    have q1 : -1000000000 ≤ ow := by omega
    have q2 : ow ≤ 1000000000 := by omega
    have hst : st = 0 ∨ st = 1 ∨ st = 2 := by omega
    have y1 : ¬ (9223372036854775807 < (itoaB ow).size + 1) := by omega
    have y2 : ¬ (9223372036854775807 < (itoaB ow).size + 1 + 9) := by omega
    have y3 : ¬ (9223372036854775807 < (itoaB ow).size + 1 + 6) := by omega
    have l0a : (w2.alloc (.cells #[Value.string ⟨#[117, 110, 100, 101, 99, 105, 100, 101, 100]⟩, Value.string ⟨#[99, 111, 109, 109, 105, 116, 116, 101, 100]⟩, Value.string ⟨#[102, 97, 105, 108, 101, 100]⟩] 9)).cell? ⟨w.heap.size, 0, none⟩ = some (.int .i64 ow) := (((Below.refl _ _).alloc (Nat.le_refl _) _ : Below w2.heap.size w2 (w2.alloc (.cells #[Value.string ⟨#[117, 110, 100, 101, 99, 105, 100, 101, 100]⟩, Value.string ⟨#[99, 111, 109, 109, 105, 116, 116, 101, 100]⟩, Value.string ⟨#[102, 97, 105, 108, 101, 100]⟩] 9))).cell (p := ⟨w.heap.size, 0, none⟩) hN2).trans l0
    have l1a : (w2.alloc (.cells #[Value.string ⟨#[117, 110, 100, 101, 99, 105, 100, 101, 100]⟩, Value.string ⟨#[99, 111, 109, 109, 105, 116, 116, 101, 100]⟩, Value.string ⟨#[102, 97, 105, 108, 101, 100]⟩] 9)).cell? ⟨w.heap.size, 1, none⟩ = some (.int .i64 st) := (((Below.refl _ _).alloc (Nat.le_refl _) _ : Below w2.heap.size w2 (w2.alloc (.cells #[Value.string ⟨#[117, 110, 100, 101, 99, 105, 100, 101, 100]⟩, Value.string ⟨#[99, 111, 109, 109, 105, 116, 116, 101, 100]⟩, Value.string ⟨#[102, 97, 105, 108, 101, 100]⟩] 9))).cell (p := ⟨w.heap.size, 1, none⟩) hN2).trans l1
    rcases hst with rfl | rfl | rfl
    all_goals go_region_law (first
      | (go_simp; go_at_call 11; refine (told6 ow _ q1 q2).mono ?_; rintro e w3 ⟨rfl, b3⟩; have hB3 : Below w2.heap.size w2 w3 := Below.trans (by repeat (first | exact Below.refl _ _ | refine Below.drew ?_ | refine Below.alloc ?_ (by simp) _)) (b3.mono (by simp)); have m0 := (hB3.cell (p := ⟨w.heap.size, 0, none⟩) hN2).trans l0; have m1 := (hB3.cell (p := ⟨w.heap.size, 1, none⟩) hN2).trans l1; have m1a : (w3.alloc (.cells #[Value.string ⟨#[117, 110, 100, 101, 99, 105, 100, 101, 100]⟩, Value.string ⟨#[99, 111, 109, 109, 105, 116, 116, 101, 100]⟩, Value.string ⟨#[102, 97, 105, 108, 101, 100]⟩] 9)).cell? ⟨w.heap.size, 1, none⟩ = _ := (((Below.refl _ _).alloc (Nat.le_refl _) _ : Below w3.heap.size w3 (w3.alloc (.cells #[Value.string ⟨#[117, 110, 100, 101, 99, 105, 100, 101, 100]⟩, Value.string ⟨#[99, 111, 109, 109, 105, 116, 116, 101, 100]⟩, Value.string ⟨#[102, 97, 105, 108, 101, 100]⟩] 9))).cell (p := ⟨w.heap.size, 1, none⟩) (Nat.lt_of_lt_of_le hN2 hB3.size)).trans m1; have c0 : w2.heap.size < _ → _ := b3.cell (p := ⟨w2.heap.size, 0, none⟩); have c1 : w2.heap.size < _ → _ := b3.cell (p := ⟨w2.heap.size, 1, none⟩); have c2 : w2.heap.size < _ → _ := b3.cell (p := ⟨w2.heap.size, 2, none⟩)))
    all_goals go_wp2_with fail
    all_goals go_meet
    all_goals exact ⟨by unfold headT; rw [← ByteArray.append_assoc]; rfl, by repeat (first | exact hB3 | refine Below.drew ?_ | refine Below.alloc ?_ (by first | (simp; done) | exact hB3.size) _)⟩
  case rest =>
    obtain ⟨rfl, hBc⟩ := hcut
    have hz := hid (show (headT ow st).size ≤ 40 by
      unfold headT; rw [ByteArray.size_append, ByteArray.size_append]
      have e : (⟨#[32]⟩ : ByteArray).size = 1 := rfl
      omega)
    go_wp2
    go_loopw [3, 4] (fun s i wr => ∃ (k : Nat) (A : ByteArray), k ≤ xs.length ∧ i = .int .i64 k ∧ s = .string A ∧ A.size ≤ 40 + 60 * k ∧ Same (textGo (xs.drop k) A) (textGo xs (headT ow st)) ∧ Below w2.heap.size w2 wr) (fun _ i _ => xs.length - (intOf i).toNat)
    case atStart => exact ⟨0, headT ow st, by omega, rfl, rfl, by have := hz.out; omega, .rfl, hBc⟩
    case round =>
      clear hBc
      obtain ⟨k, A, hk, rfl, rfl, hA, hS, hB⟩ := hrel
      have q2 := (hB.cell (p := ⟨w.heap.size, 2, none⟩) hN2).trans l2
      have hBr : Below w.heap.size w wr := hB2.trans (hB.mono (by omega))
      by_cases hlt : k < xs.length
      · obtain ⟨bb, off, rfl, hbs, c0, c1, c2, c3, c4⟩ := HC.out k hlt
        obtain ⟨e0, e1, e2, e3, e4⟩ := cells5 hBr hbs c0 c1 c2 c3 c4
        obtain ⟨z1, z2, z3, z4, z5⟩ := entryOk_size (hEn.out k hlt)
        obtain ⟨⟨r1, r2⟩, ⟨r3, r4⟩, ⟨r5, r6⟩, ⟨r7, r8⟩, _⟩ := entryOk_iff.1 (hEn.out k hlt)
        have p1 : -1000000000 ≤ xs[k].object_ := by omega
        have p2 : xs[k].object_ ≤ 1000000000 := by omega
        have p3 : -1000000000 ≤ xs[k].version_ := by omega
        have p4 : xs[k].version_ ≤ 1000000000 := by omega
        clear r1 r2 r3 r4
        have hst := hid (textGo_step xs k hlt A)
        obtain ⟨V, hV⟩ : ∃ X, wr.alloc (.cells #[.int .i64 xs[k].object_, .int .i64 xs[k].version_, .int .i64 xs[k].old_, .int .i64 xs[k].new_, .bool xs[k].write_] 38) = X := ⟨_, rfl⟩
        have bV : Below wr.heap.size wr V := by rw [← hV]; exact (Below.refl _ _).alloc (Nat.le_refl _) _
        have hNV : wr.heap.size < V.heap.size := by rw [← hV]; simp
        have k0 : V.cell? ⟨wr.heap.size, 0, none⟩ = some (.int .i64 xs[k].object_) := by rw [← hV]; simp [go_sem]
        have k1 : V.cell? ⟨wr.heap.size, 1, none⟩ = some (.int .i64 xs[k].version_) := by rw [← hV]; simp [go_sem]
        have k2 : V.cell? ⟨wr.heap.size, 2, none⟩ = some (.int .i64 xs[k].old_) := by rw [← hV]; simp [go_sem]
        have k3 : V.cell? ⟨wr.heap.size, 3, none⟩ = some (.int .i64 xs[k].new_) := by rw [← hV]; simp [go_sem]
        obtain ⟨b, hb⟩ : ∃ b, Hid (xs[k].write_ = b) := ⟨_, hid rfl⟩
        have k4 : V.cell? ⟨wr.heap.size, 4, none⟩ = some (.bool b) := by rw [← hV, ← hb.out]; simp [go_sem]
        have x0 := Ext.cell hNV k0
        have x1 := Ext.cell hNV k1
        have x2 := Ext.cell hNV k2
        have x3 := Ext.cell hNV k3
        have x4 := Ext.cell hNV k4
        have HBV := hid (show Below w2.heap.size w2 V from hB.trans (bV.mono hB.size))
        have HV := hid hV
        clear hV k0 k1 k2 k3 k4 c0 c1 c2 c3 c4 HC bV
        have y1 : ¬ (9223372036854775807 < A.size + 1) := by omega
        go_wp2_with fail
        rw [HV.out]
        clear e0 e1 e2 e3 e4 q2
        refine wp_region_ext V (Below.refl _ _) (by kernel_rfl) (by kernel_rfl) ?_
        repeat (go_big_quiet_step (first | (go_at_call 11; exact call_ext _ (told6 _ _ (by assumption) (by assumption)))))
        refine wpQuiet_nil ?_
        rintro _ ⟨E, rfl⟩
        have hBE := hid (HBV.out.trans (E.h.mono HBV.out.size))
        have w3 := x3 E
        have w4 := x4 E
        clear x0 x1 x2 x3 x4
        have c32 : (⟨#[32]⟩ : ByteArray).size = 1 := rfl
        have c64 : (⟨#[64]⟩ : ByteArray).size = 1 := rfl
        have c58 : (⟨#[58]⟩ : ByteArray).size = 1 := rfl
        generalize hA2 : A ++ (⟨#[32]⟩ : ByteArray) ++ itoaB xs[k].object_ ++ (⟨#[64]⟩ : ByteArray) ++ itoaB xs[k].version_ ++ (⟨#[58]⟩ : ByteArray) ++ itoaB xs[k].old_ = A2
        have hA2s : A2.size ≤ 1000 := by rw [← hA2]; simp only [ByteArray.size_append, c32, c64, c58]; omega
        have HA2 := hid hA2
        clear hA2 c32 c64 c58
        cases b with
        | false =>
          have He := hid (show A ++ entP xs[k] = A2 by
            rw [← HA2.out]; unfold entP; rw [hb.out]; simp only [ByteArray.append_assoc]; rw [if_neg (by simp), ByteArray.append_empty])
          go_wp2
          go_roundw
          case rel => exact ⟨k+1, A2, by omega, by go_num, rfl, by rw [← He.out, ByteArray.size_append]; omega, Same.mk (by have h9 := hS.out; rw [hst.out, He.out] at h9; exact h9), hBE.out⟩
          case measure => simp [intOf]; omega
        | true =>
          have He := hid (show A ++ entP xs[k] = A2 ++ (⟨#[62]⟩ : ByteArray) ++ itoaB xs[k].new_ by
            rw [← HA2.out]; unfold entP; rw [hb.out]; simp only [ByteArray.append_assoc, if_true])
          have y2 : ¬ (9223372036854775807 < A2.size + 1) := by omega
          have y3 : ¬ (9223372036854775807 < A2.size + 1 + (itoaB xs[k].new_).size) := by omega
          go_wp2_with fail
          refine (told6 _ _ r7 r8).mono ?_
          rintro e w5 ⟨rfl, b5⟩
          have hB5 := hid (hBE.out.trans (b5.mono hBE.out.size))
          go_wp2
          go_roundw
          case rel => exact ⟨k+1, _, by omega, by go_num, rfl, by rw [← He.out, ByteArray.size_append]; omega, Same.mk (by have h9 := hS.out; rw [hst.out, He.out] at h9; exact h9), hB5.out⟩
          case measure => simp [intOf]; omega
      · have Hn := hid (show descT ow st xs = A by rw [hT.out, ← hS.out, List.drop_eq_nil_of_le (by omega)]; rfl)
        go_wp2
        go_ret
        exact ⟨ret_str Hn.out.symm, hBr⟩
end Go.Proofs.YtmfepmbkgomlcaaDoor
