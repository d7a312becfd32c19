/- Chapter 4's model: TurnAll. -/
import Derived.Test.YtjcnoogloncbbaaS4u
namespace Go.Proofs.Ytjcnoogloncbbaa
set_option maxRecDepth 100000
open Go.RowKit Go.Proofs Go.Own
set_option linter.unusedVariables false
set_option linter.unusedSimpArgs false
theorem allC_step {xs : List C} {ts : List Turn4} {k : Nat} (h : k < ts.length) : allC xs (ts.drop k) = (turnT xs ts[k]).bind fun ys => allC ys (ts.drop (k+1)) := by
  rw [List.drop_eq_getElem_cons h]; rfl
set_option maxHeartbeats 16000000 in
theorem spec_TurnAll0 (v : Value) (xs : List Phasor) (u : Value) (ts : List Turn4) (w : World) (h : Phasors w v xs) (hx : xs.length ≤ 1048576) (g : Turn4s w u ts) (ht : ts.length ≤ 1048576) :
    Calls Try.prog 32 #[v, u] w fun e w' => ∃ (v' : Value) (ys : List Phasor), e = .returned (.tuple #[v', .bool (turnAllC (xs.map Phasor.rd) ts).isSome]) ∧ ys.map Phasor.rd = (turnAllC (xs.map Phasor.rd) ts).getD (xs.map Phasor.rd) ∧ w'.ownsRow w.heap.size 29 2 v' ys.length (ys.flatMap Phasor.enc) ∧ Below w.heap.size w w' := by
  obtain ⟨ad, cap, rfl, hl, hm⟩ := Flat.form h
  obtain ⟨ad2, cap2, rfl, hl2, hm2, hc2⟩ := g.open
  have hlen2 : ts.length ≤ 9223372036854775807 := by omega
  by_cases h60 : (60 : Int) < (ts.length : Int)
  · have hno : turnAllC (xs.map Phasor.rd) ts = none := if_neg (by omega)
    go_enter Try.func32, Try.ntmps32
    go_wp2_with fail
    refine (spec_l4Copy _ xs _ h hx).mono ?_
    rintro e w2 ⟨v', rfl, o, b2⟩
    clear hc2
    go_wp2
    go_ret2
    exact ⟨_, xs, by rw [hno]; rfl, by rw [hno]; rfl, o, b2⟩
  have hyes : turnAllC (xs.map Phasor.rd) ts = allC (xs.map Phasor.rd) ts := if_pos (by omega)
  go_enter Try.func32, Try.ntmps32
  go_wp2_with fail
  refine (spec_l4Copy _ xs _ h hx).mono ?_
  rintro e w2 ⟨v0, rfl, o, b2⟩
  have HC := hid hc2
  clear hc2
  go_wp2
  go_loopw [6, 7] (fun s i wr => ∃ (k : Nat) (ys : List Phasor), k ≤ ts.length ∧ i = .int .i64 k ∧ ys.length = xs.length ∧ wr.ownsRow w.heap.size 29 2 s ys.length (ys.flatMap Phasor.enc) ∧ Same (allC (ys.map Phasor.rd) (ts.drop k)) (allC (xs.map Phasor.rd) ts) ∧ Below w.heap.size w wr) (fun _ i _ => ts.length - (intOf i).toNat)
  case atStart => exact ⟨0, xs, by omega, rfl, rfl, o, .rfl, b2⟩
  case round =>
    clear o b2
    obtain ⟨k, ys, hk, rfl, hy, o, hS, hB⟩ := hrel
    by_cases hlt : k < ts.length
    · obtain ⟨bb, off, rfl, hbs, c0, c1, c2, c3, c4⟩ := HC.out k hlt
      rw [← hB.cell (p := ⟨bb, off + k * 5, none⟩) hbs] at c0
      rw [← hB.cell (p := ⟨bb, off + k * 5 + 1, none⟩) hbs] at c1
      rw [← hB.cell (p := ⟨bb, off + k * 5 + 2, none⟩) hbs] at c2
      rw [← hB.cell (p := ⟨bb, off + k * 5 + 3, none⟩) hbs] at c3
      rw [← hB.cell (p := ⟨bb, off + k * 5 + 4, none⟩) hbs] at c4
      have hst := hS.out
      rw [allC_step hlt] at hst
      clear HC
      go_wp2_with fail
      refine (spec_Turned0 _ ys _ _ _ _ _ _ (Flat.of_owns o) (by omega)).mono ?_
      rintro e w3 ⟨v', zs, rfl, hz, o3, b3⟩
      have hB3 := hB.trans (b3.mono hB.size)
      cases hT : turnT (ys.map Phasor.rd) ts[k] with
      | none =>
        have hT' := hT
        unfold turnT Turn4.z at hT'
        rw [hT] at hst
        have hno : turnAllC (xs.map Phasor.rd) ts = none := by rw [hyes]; exact hst.symm
        go_wp2_with fail
        refine (spec_l4Copy _ xs _ (Flat.below h hB3) hx).mono ?_
        rintro e w4 ⟨v4, rfl, o4, b4⟩
        go_wp2
        go_ret2
        exact ⟨_, xs, by rw [hno]; rfl, by rw [hno]; rfl, owns_mono o4 hB3.size, hB3.trans (b4.mono hB3.size)⟩
      | some L =>
        have hT' := hT
        unfold turnT Turn4.z at hT'
        rw [hT] at hst
        rw [hT'] at hz
        have hz' : zs.map Phasor.rd = L := hz
        have hlz : zs.length = xs.length := by
          have h1 := turnC_len hT'
          rw [← hz'] at h1
          simp at h1
          omega
        go_wp2
        go_roundw
        case rel => exact ⟨k+1, zs, by omega, by go_num, hlz, owns_mono o3 hB.size, Same.mk (by rw [hz']; exact hst), hB3⟩
        case measure => simp [intOf]; omega
    · have hst := hS.out
      rw [List.drop_eq_nil_of_le (by omega)] at hst
      have hT : turnAllC (xs.map Phasor.rd) ts = some (ys.map Phasor.rd) := by rw [hyes]; exact hst.symm
      go_wp2
      go_ret2
      exact ⟨_, ys, by rw [hT]; rfl, by rw [hT]; rfl, o, hB⟩
end Go.Proofs.Ytjcnoogloncbbaa
