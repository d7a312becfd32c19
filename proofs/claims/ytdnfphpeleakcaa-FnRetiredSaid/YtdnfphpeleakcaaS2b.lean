/- Chapter 2's model: Live, Spent, Get. -/
import Derived.Test.YtdnfphpeleakcaaS2a
namespace Go.Proofs.Ytdnfphpeleakcaa
set_option maxRecDepth 100000
open Go.RowKit Go.Proofs Go.Own
set_option linter.unusedVariables false
set_option linter.unusedSimpArgs false

theorem arenaOk_len {bs : List Block} {ls : List Int} (h : arenaOk ⟨bs, ls⟩ = true) : 1 ≤ bs.length ∧ bs.length ≤ 24 := by
  simp [arenaOk, inB] at h; omega
theorem arenaOk_block {bs : List Block} {ls : List Int} (h : arenaOk ⟨bs, ls⟩ = true) (k : Nat) (hk : k < bs.length) : blockOk bs[k] = true := by
  simp only [arenaOk, Bool.and_eq_true] at h
  exact List.all_eq_true.1 h.1.1.2 _ (List.getElem_mem hk)

def spentB (b : Block) : Bool := b.free_ && decide (b.gen_ = 5)
set_option maxRecDepth 100000 in set_option maxHeartbeats 2000000 in
theorem spec_Live0 (v0 : Value) (bs : List Block) (v1 : Value) (ls : List Int) (h : Int) (w : World) (h0 : Blocks w v0 bs) (h1 : Ints w v1 ls) :
    Calls Try.prog 55 #[.agg #[v0, v1], .int .i64 h] w fun e w' => e = .returned (.bool (liveF ⟨bs, ls⟩ h)) ∧ Below w.heap.size w w' := by
  obtain ⟨a0, cap0, rfl, hl0, hm0⟩ := h0.form; obtain ⟨a1, cap1, rfl, hl1, hm1⟩ := h1.form; obtain ⟨W1, hW1⟩ : ∃ X, (w.alloc (.cells #[Value.slice a0 bs.length cap0, Value.slice a1 ls.length cap1] 27)) = X := ⟨_, rfl⟩; have hB1 : Below w.heap.size w W1 := by rw [← hW1]; exact Below.alloc (Below.refl _ _) (by simp) _
  have hN : w.heap.size + 1 = W1.heap.size := by rw [← hW1]; simp
  have k0 : W1.cell? ⟨w.heap.size, 0, none⟩ = some (Value.slice a0 bs.length cap0) := by rw [← hW1]; simp [go_sem]
  have k1 : W1.cell? ⟨w.heap.size, 1, none⟩ = some (Value.slice a1 ls.length cap1) := by rw [← hW1]; simp [go_sem]
  have h0w := Blocks.below h0 hB1; have h1w := Ints.below h1 hB1
  cases hok : arenaOk ⟨bs, ls⟩
  case false =>
    have hno := hid (show liveF ⟨bs, ls⟩ h = false by simp [liveF, hok])
    go_enter Try.func55, Try.ntmps55
    go_wp2_with (go_at_call 52; refine (spec_ArenaOk0 _ bs _ ls _ h0w h1w).mono ?_; rintro e w2 ⟨rfl, b2⟩)
    go_ret
    exact ⟨ret_bool hno.out.symm, hB1.trans (b2.mono (by omega))⟩
  have hlen := arenaOk_len hok
  obtain ⟨hlen1, hlen24⟩ := hlen
  have HB := hid (arenaOk_block hok)
  cases hin : inB h 0 (8 * bs.length - 1)
  case false =>
    have hno := hid (show liveF ⟨bs, ls⟩ h = false by simp only [liveF, hin]; simp)
    go_enter Try.func55, Try.ntmps55
    go_wp2_with fail
    refine (spec_ArenaOk0 _ bs _ ls _ h0w h1w).mono ?_
    rintro e w2 ⟨rfl, b2⟩
    have q0 := (b2.cell (p := ⟨w.heap.size, 0, none⟩) (show w.heap.size < _ by omega)).trans k0
    go_wp2_with ((go_at_call 53; refine (spec_l1In _ _ _ _).mono ?_; rintro e w' ⟨rfl, rfl⟩))
    go_ret
    exact ⟨ret_bool hno.out.symm, hB1.trans (b2.mono (by omega))⟩
  obtain ⟨q, hq⟩ : ∃ q : Nat, h = q := ⟨h.toNat, by simp [inB] at hin; omega⟩
  subst hq
  have hqn : q / 8 < bs.length := by simp [inB] at hin; omega
  obtain ⟨⟨g, fr, x0, x1, x2⟩, ho⟩ : ∃ o, Hid (bs[q / 8] = o) := ⟨_, hid rfl⟩
  have hgd := hid (show bs.getD (q / 8) zeroB = ⟨g, fr, x0, x1, x2⟩ by rw [List.getD, List.getElem?_eq_getElem hqn]; exact ho.out)
  have hyes := hid (show liveF ⟨bs, ls⟩ q = (!fr && decide (g = ((q % 8 : Nat) : Int))) by
    have e : ((q : Int) / 8).toNat = q / 8 := by omega
    simp only [liveF, hok, hin, e, hgd.out]
    simp)
  go_enter Try.func55, Try.ntmps55
  go_wp2_with fail
  refine (spec_ArenaOk0 _ bs _ ls _ h0w h1w).mono ?_
  rintro e w2 ⟨rfl, b2⟩
  have q0 := (b2.cell (p := ⟨w.heap.size, 0, none⟩) (show w.heap.size < _ by omega)).trans k0
  obtain ⟨bb, off, rfl, hbs, c0, c1, c2, c3, c4⟩ := Blocks.at (Blocks.below h0w b2) (q / 8) hqn _ ho
  dsimp only at c0 c1 c2 c3 c4
  have hB2 : Below w.heap.size w w2 := hB1.trans (b2.mono (by omega))
  have hz2 := b2.size
  cases fr
  all_goals
    go_wp2_with ((go_at_call 53; refine (spec_l1In _ _ _ _).mono ?_; rintro e w' ⟨rfl, rfl⟩))
    go_ret
  · exact ⟨ret_bool (by rw [hyes.out, Bool.eq_iff_iff]; simp), hB2.alloc (by omega) _⟩
  · exact ⟨ret_bool (by rw [hyes.out]; rfl), hB2.alloc (by omega) _⟩
theorem spec_Live (v0 : Value) (bs : List Block) (v1 : Value) (ls : List Int) (h : Int) (w : World) (h0 : Blocks w v0 bs) (_hx0 : bs.length ≤ 1048576) (h1 : Ints w v1 ls) (_hx1 : ls.length ≤ 1048576) :
    Calls Try.prog 55 #[.agg #[v0, v1], .int .i64 h] w fun e w' => e = .returned (.bool (liveF ⟨bs, ls⟩ h)) ∧ Below w.heap.size w w' := spec_Live0 v0 bs v1 ls h w h0 h1

/-- Where a live handle's block lies. -/
theorem live_at {bs : List Block} {ls : List Int} {h : Int} (hl : liveF ⟨bs, ls⟩ h = true) : ∃ q : Nat, h = q ∧ q / 8 < bs.length ∧ arenaOk ⟨bs, ls⟩ = true ∧ (bs.getD (q / 8) zeroB).free_ = false ∧ (bs.getD (q / 8) zeroB).gen_ = ((q % 8 : Nat) : Int) ∧ bs.length ≤ 24 ∧ (h / 8).toNat = q / 8 := by
  simp only [liveF, Bool.and_eq_true, inB, decide_eq_true_eq] at hl
  obtain ⟨⟨⟨h1, h2⟩, h3⟩, h4⟩ := hl
  have h24 := (arenaOk_len h1).2
  obtain ⟨q, rfl⟩ : ∃ q : Nat, h = q := ⟨h.toNat, by omega⟩
  have e : ((q : Int) / 8).toNat = q / 8 := by omega
  rw [e] at h3 h4
  exact ⟨q, rfl, by omega, h1, by simpa using h3, by rw [h4]; omega, h24, e⟩


end Go.Proofs.Ytdnfphpeleakcaa
