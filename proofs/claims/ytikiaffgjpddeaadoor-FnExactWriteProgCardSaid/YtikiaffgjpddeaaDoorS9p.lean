/- Chapter 9's model: WriteProg. -/
import Derived.Test.YtikiaffgjpddeaaDoorS9w
namespace Go.Proofs.YtikiaffgjpddeaaDoor
set_option maxRecDepth 100000
open Go.RowKit Go.Proofs Go.Own
set_option linter.unusedVariables false
set_option linter.unusedSimpArgs false
set_option maxHeartbeats 8000000 in
theorem spec_WriteProg0 (v : Value) (xs : List Instr) (w : World) (h : Instrs w v xs) :
    Calls Tryd.prog 6 #[v] w fun e w' => e = .returned (.tuple #[.string (textOf xs), .bool (progOk xs)]) ∧ Below w.heap.size w w' := by
  have h0 := hid h
  obtain ⟨ad, cap, rfl, hl, hm, hc⟩ := h.open
  clear h
  have hlen : xs.length ≤ 9223372036854775807 := by omega
  have HC := hid hc
  clear hc
  cases hok : progOk xs with
  | false =>
    have hT := hid (show textOf xs = ByteArray.empty by unfold textOf; rw [hok]; rfl)
    go_enter Tryd.func6, Tryd.ntmps6
    go_wp2_with fail
    refine (spec_ProgOk _ xs _ h0.out).mono ?_
    rintro e w2 ⟨rfl, b2⟩
    rw [hok]
    go_wp2
    go_ret2
    exact ⟨by rw [hT.out]; rfl, b2⟩
  | true =>
    have hT := hid (show textOf xs = BA (textL xs) by unfold textOf; rw [hok]; rfl)
    have h30 := progOk_len hok
    have hget := hid (progOk_get hok)
    have hsz := hid (textL_len xs hok)
    go_enter Tryd.func6, Tryd.ntmps6
    go_wp2_with fail
    refine (spec_ProgOk _ xs _ h0.out).mono ?_
    rintro e w2 ⟨rfl, b2⟩
    rw [hok]
    go_wp2
    go_loopw [4, 5] (fun s i wr => ∃ (k : Nat) (A : ByteArray), k ≤ xs.length ∧ i = .int .i64 k ∧ s = .string A ∧ Same A (BA (textL (xs.take k))) ∧ Below w.heap.size w wr) (fun _ i _ => xs.length - (intOf i).toNat)
    case atStart => exact ⟨0, ByteArray.empty, by omega, rfl, rfl, Same.mk rfl, b2⟩
    case round =>
      clear b2
      obtain ⟨k, A, hk, rfl, rfl, hS, hB⟩ := hrel
      by_cases hlt : k < xs.length
      · obtain ⟨bb, off, rfl, hbs, c0, c1, c2⟩ := HC.out k hlt
        obtain ⟨e0, e1, e2⟩ := cells3 hB hbs c0 c1 c2
        clear c0 c1 c2 HC
        have hI := hget.out k hlt
        have r1 := instrOk_op hI
        have r2 := instrOk_rng hI (by omega)
        have hstep := hid (textL_take hlt)
        have z1 : A.size ≤ 31 * k := by rw [hS.out, BA_size]; exact hsz.out k hk
        have z2 : (BA (lineL xs[k])).size ≤ 30 := by rw [BA_size]; exact lineL_len hI (by omega)
        have R1 := hid r1
        have R2 := hid r2
        clear hI hget r1 r2 hsz
        go_wp2_with fail
        refine (spec_l9Line xs[k] _ R1.out R2.out.1 R2.out.2).mono ?_
        rintro e w3 ⟨rfl, b3⟩
        have hB2 := hB.trans (b3.mono hB.size)
        obtain ⟨L, hL⟩ : ∃ X, BA (lineL xs[k]) = X := ⟨_, rfl⟩
        rw [hL] at z2
        rw [hL]
        have HL := hid hL
        have y1 : ¬ (9223372036854775807 < A.size + L.size) := by omega
        have y2 : ¬ (9223372036854775807 < A.size + L.size + 1) := by omega
        clear hL
        go_wp2
        go_roundw
        case rel => exact ⟨k + 1, _, by omega, by go_num, rfl, Same.mk (by rw [hS.out, ← HL.out, hstep.out, ← BA_app, ← BA_app, ByteArray.append_assoc]; rfl), hB2⟩
        case measure => simp [intOf]; omega
      · obtain rfl : k = xs.length := by omega
        have Hf := hid (show A = textOf xs by rw [hT.out, hS.out, List.take_of_length_le (by omega)])
        go_wp2
        go_ret2
        exact ⟨by rw [Hf.out]; rfl, hB⟩
end Go.Proofs.YtikiaffgjpddeaaDoor
