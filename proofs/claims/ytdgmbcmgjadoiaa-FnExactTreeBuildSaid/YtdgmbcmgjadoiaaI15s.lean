/- Chapter 15's program: whether a list ascends. -/
import Derived.Test.YtdgmbcmgjadoiaaAsc
import Derived.Test.YtdgmbcmgjadoiaaBase2
import Derived.Test.YtdgmbcmgjadoiaaS0
import Derived.BigQuiet
import Derived.Deep.Cut
namespace Go.Proofs.Ytdgmbcmgjadoiaa
set_option maxRecDepth 100000
open Go.RowKit Go.Proofs Go.Own
open Go Go.BigFrame
set_option linter.unusedVariables false
set_option linter.unusedSimpArgs false
set_option maxHeartbeats 4000000 in
theorem impl_isAscending0 (v : Value) (xs : List Int) (w : World) (h : Ints w v xs) :
    Calls Try.prog 45 #[v] w fun e w' => e = .returned (.bool (ascI xs)) ∧ Below w.heap.size w w' := by
  obtain ⟨a, cap, rfl, hl9, hm9, hcx⟩ := Ints.open h
  have HCX := hid hcx
  clear hcx h
  go_enter Try.func45, Try.ntmps45
  go_wp2
  go_loopw [3] (fun i wx => ∃ k : Nat, (k + 1 ≤ xs.length ∨ k = 0) ∧ i = .int .i64 ((k : Int) + 1) ∧ Hid (upTo xs (k+1)) ∧ Below w.heap.size w wx) (fun i _ => xs.length + 1 - (intOf i).toNat)
  case atStart => exact ⟨0, .inr rfl, rfl, hid (fun j h0 h1 _ => by omega), Below.refl _ _⟩
  case round =>
    obtain ⟨k, hk2, rfl, HAS, hBx⟩ := hrel
    have HBx := hid hBx
    by_cases hlt2 : k + 1 < xs.length
    · have hlt' : (k : Int) + 1 < (xs.length : Int) := by omega
      obtain ⟨bb, off, rfl, hbs, c0⟩ := HCX.out k (by omega)
      have c1 := (HCX.out (k+1) hlt2 |> fun ⟨_, _, q, _, c⟩ => by cases q; exact c : w.cell? ⟨bb, off + (k+1), none⟩ = some (.int .i64 xs[k+1]))
      have HST := hid (upTo_next HAS.out hlt2 (by omega))
      have HNO := hid (fun (h : upTo xs xs.length) => h (k+1) (by omega) hlt2 hlt2)
      simp only [Nat.add_sub_cancel] at HST HNO
      have e0 := (hBx.cell (p := ⟨bb, off + k, none⟩) hbs).trans c0
      have e1 := (hBx.cell (p := ⟨bb, off + (k+1), none⟩) hbs).trans c1
      have hix : ((k : Int) + 1).toNat = k + 1 := by omega
      have hix2 : ((k : Int) + 1 - 1).toNat = k := by omega
      obtain ⟨x0, hx0⟩ : ∃ x, xs[k] = x := ⟨_, rfl⟩
      obtain ⟨x1, hx1⟩ : ∃ x, xs[k+1] = x := ⟨_, rfl⟩
      rw [hx0] at e0 HST HNO
      rw [hx1] at e1 HST HNO
      clear c0 c1 HCX hx0 hx1 hBx hk2
      by_cases heq : x1 ≤ x0
      · have Hn := hid (show ascI xs = false by
          cases h9 : ascI xs with
          | false => rfl
          | true => exact absurd (HNO.out ((ascI_all xs).1 h9)) (by omega))
        go_upto_region 4 with fail
        go_quiet (fail)
        go_wp2
        go_ret
        exact ⟨ret_bool Hn.out.symm, below_drewN HBx.out _⟩
      · have HS9 := hid (HST.out (by omega))
        go_upto_region 4 with fail
        go_quiet (fail)
        go_wp2
        go_roundw
        case rel => exact ⟨k+1, .inl (by omega), by go_num, HS9, below_drewN HBx.out _⟩
        case measure => simp [intOf]; omega
    · have Hy := hid (show ascI xs = true from (ascI_all xs).2 (fun j h0 hj hjl => HAS.out j h0 (by omega) hjl))
      have hlt' : ¬ (k : Int) + 1 < (xs.length : Int) := by omega
      clear HCX HAS hBx hk2
      go_wp2
      go_ret
      exact ⟨by rw [Hy.out]; rfl, HBx.out⟩
end Go.Proofs.Ytdgmbcmgjadoiaa
