import Derived.Test.YtfhkngmankmehaaD
namespace Go.Proofs.Ytfhkngmankmehaa
open Go.RowKit Go.Proofs Go.Own

theorem ints_of_owns {w : World} {base e : Nat} {v : Value} {xs : List Int} (h : w.ownsRow base e 1 v xs.length (xs.map (Value.int .i64))) : Ints w v xs := Flat.of_owns h
theorem Ints.drewN {w : World} {v : Value} {xs : List Int} (h : Ints w v xs) (n : Nat) : Ints (w.drewN n) v xs := h

theorem law_MemoryOk (v : Value) (xs : List Int) (w : World) (h : Ints w v xs) :
    Calls Try.prog 3 #[v] w fun e w' => e = .returned (.bool true) ∧ Below w.heap.size w w' := by
  obtain ⟨ad, cap, hv, hl, hm, hc⟩ := h.open
  clear hc
  by_cases hbig : 1048576 < xs.length
  · subst hv
    go_enter Try.func3, Try.ntmps3
    go_wp2
    go_ret
    exact ⟨rfl, Below.refl _ _⟩
  · have hx : xs.length ≤ 1048576 := by omega
    have Hv := hid hv
    clear hv hbig
    rw [Hv.out] at h ⊢
    go_enter Try.func3, Try.ntmps3
    go_wp2_with fail
    refine (toIntS_c _ xs _ hx h).mono ?_
    rintro e w1 ⟨v1, rfl, o1, b1⟩
    have h1 := h.below b1
    have r1 := ints_of_owns o1
    go_wp2_with fail
    refine (spec_MemoryOk _ xs _ r1).mono ?_
    rintro e _ ⟨rfl, rfl⟩
    go_wp2_with fail
    refine (toIntS_c _ xs _ hx h1).mono ?_
    rintro e w2 ⟨v2, rfl, o2, b2⟩
    have h2 := h1.below b2
    have r2 := ints_of_owns o2
    go_wp2_with fail
    refine (impl_MemoryOk _ xs _ r2).mono ?_
    rintro e _ ⟨rfl, rfl⟩
    go_wp2_with fail
    refine (toIntS_c _ xs _ hx h2).mono ?_
    rintro e w3 ⟨v3, rfl, o3, b3⟩
    have r3 := ints_of_owns o3
    go_wp2_with fail
    refine (eqIntS_c _ _ xs xs _ (r2.below b3) r3).mono ?_
    rintro e _ ⟨rfl, n, rfl⟩
    rw [decide_eq_true rfl]
    go_wp2
    go_ret
    exact ⟨rfl, below_drewN (b1.trans ((b2.mono b1.size).trans (b3.mono (Nat.le_trans b1.size b2.size)))) n⟩
end Go.Proofs.Ytfhkngmankmehaa
