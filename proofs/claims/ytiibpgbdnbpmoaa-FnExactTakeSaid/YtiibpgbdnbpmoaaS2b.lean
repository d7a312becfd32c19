/- Chapter 2's model: Live, Spent, Get. -/
import Derived.Test.YtiibpgbdnbpmoaaS2a
namespace Go.Proofs.Ytiibpgbdnbpmoaa
open Go.RowKit Go.Proofs Go.Own
set_option linter.unusedVariables false
set_option linter.unusedSimpArgs false

theorem arenaOk_len {bs : List Block} {ls : List Int} (h : arenaOk ⟨bs, ls⟩ = true) : 1 ≤ bs.length ∧ bs.length ≤ 24 := by
  simp [arenaOk, inB] at h; omega
theorem arenaOk_block {bs : List Block} {ls : List Int} (h : arenaOk ⟨bs, ls⟩ = true) (k : Nat) (hk : k < bs.length) : blockOk bs[k] = true := by
  simp only [arenaOk, Bool.and_eq_true] at h
  exact List.all_eq_true.1 h.1.1.2 _ (List.getElem_mem hk)

def spentB (b : Block) : Bool := b.free_ && decide (b.gen_ = 5)
set_option maxRecDepth 100000 in set_option maxHeartbeats 2000000 in
theorem spec_Live0 (v0 : Value) (bs : List Block) (v1 : Value) (ls : List Int) (h : Int) (w : World) (h0 : Blocks w v0 bs) (h1 : Ints w v1 ls) :
    Calls Try.prog 20 #[.agg #[v0, v1], .int .i64 h] w fun e w' => e = .returned (.bool (liveF ⟨bs, ls⟩ h)) ∧ Below w.heap.size w w' := by
  obtain ⟨a0, cap0, rfl, hl0, hm0⟩ := h0.form; obtain ⟨a1, cap1, rfl, hl1, hm1⟩ := h1.form; obtain ⟨W1, hW1⟩ : ∃ X, (w.alloc (.cells #[Value.slice a0 bs.length cap0, Value.slice a1 ls.length cap1] 30)) = X := ⟨_, rfl⟩; have hB1 : Below w.heap.size w W1 := by rw [← hW1]; exact Below.alloc (Below.refl _ _) (by simp) _
  have hN : w.heap.size + 1 = W1.heap.size := by rw [← hW1]; simp
  have k0 : W1.cell? ⟨w.heap.size, 0, none⟩ = some (Value.slice a0 bs.length cap0) := by rw [← hW1]; simp [go_sem]
  have k1 : W1.cell? ⟨w.heap.size, 1, none⟩ = some (Value.slice a1 ls.length cap1) := by rw [← hW1]; simp [go_sem]
  have h0w := Blocks.below h0 hB1; have h1w := Ints.below h1 hB1
  cases hok : arenaOk ⟨bs, ls⟩
  case false =>
    have hno := hid (show liveF ⟨bs, ls⟩ h = false by simp [liveF, hok])
    go_enter Try.func20, Try.ntmps20
    go_wp2_with (go_at_call 12; refine (spec_ArenaOk0 _ bs _ ls _ h0w h1w).mono ?_; rintro e w2 ⟨rfl, b2⟩)
    go_ret
    exact ⟨ret_bool hno.out.symm, hB1.trans (b2.mono (by omega))⟩
  have hlen := arenaOk_len hok
  obtain ⟨hlen1, hlen24⟩ := hlen
  have HB := hid (arenaOk_block hok)
  cases hin : inB h 0 (8 * bs.length - 1)
  case false =>
    have hno := hid (show liveF ⟨bs, ls⟩ h = false by simp only [liveF, hin]; simp)
    go_enter Try.func20, Try.ntmps20
    go_wp2_with fail
    refine (spec_ArenaOk0 _ bs _ ls _ h0w h1w).mono ?_
    rintro e w2 ⟨rfl, b2⟩
    have q0 := (b2.cell (p := ⟨w.heap.size, 0, none⟩) (show w.heap.size < _ by omega)).trans k0
    go_wp2_with ((go_at_call 34; refine (spec_l1In _ _ _ _).mono ?_; rintro e w' ⟨rfl, rfl⟩))
    go_ret
    exact ⟨ret_bool hno.out.symm, hB1.trans (b2.mono (by omega))⟩
  obtain ⟨q, hq⟩ : ∃ q : Nat, h = q := ⟨h.toNat, by simp [inB] at hin; omega⟩
  subst hq
  have hqn : q / 8 < bs.length := by simp [inB] at hin; omega
  obtain ⟨⟨g, fr, x0, x1, x2⟩, ho⟩ : ∃ o, Hid (bs[q / 8] = o) := ⟨_, hid rfl⟩
  have hgd := hid (show bs.getD (q / 8) zeroB = ⟨g, fr, x0, x1, x2⟩ by rw [List.getD, List.getElem?_eq_getElem hqn]; exact ho.out)
  have hyes := hid (show liveF ⟨bs, ls⟩ q = (!fr && decide (g = ((q % 8 : Nat) : Int))) by
    have e : ((q : Int) / 8).toNat = q / 8 := by omega
    simp only [liveF, hok, hin, e, hgd.out]
    simp)
  go_enter Try.func20, Try.ntmps20
  go_wp2_with fail
  refine (spec_ArenaOk0 _ bs _ ls _ h0w h1w).mono ?_
  rintro e w2 ⟨rfl, b2⟩
  have q0 := (b2.cell (p := ⟨w.heap.size, 0, none⟩) (show w.heap.size < _ by omega)).trans k0
  obtain ⟨bb, off, rfl, hbs, c0, c1, c2, c3, c4⟩ := Blocks.at (Blocks.below h0w b2) (q / 8) hqn _ ho
  dsimp only at c0 c1 c2 c3 c4
  have hB2 : Below w.heap.size w w2 := hB1.trans (b2.mono (by omega))
  have hz2 := b2.size
  cases fr
  all_goals
    go_wp2_with ((go_at_call 34; refine (spec_l1In _ _ _ _).mono ?_; rintro e w' ⟨rfl, rfl⟩))
    go_ret
  · exact ⟨ret_bool (by rw [hyes.out, Bool.eq_iff_iff]; simp), hB2.alloc (by omega) _⟩
  · exact ⟨ret_bool (by rw [hyes.out]; rfl), hB2.alloc (by omega) _⟩
theorem spec_Live (v0 : Value) (bs : List Block) (v1 : Value) (ls : List Int) (h : Int) (w : World) (h0 : Blocks w v0 bs) (_hx0 : bs.length ≤ 1048576) (h1 : Ints w v1 ls) (_hx1 : ls.length ≤ 1048576) :
    Calls Try.prog 20 #[.agg #[v0, v1], .int .i64 h] w fun e w' => e = .returned (.bool (liveF ⟨bs, ls⟩ h)) ∧ Below w.heap.size w w' := spec_Live0 v0 bs v1 ls h w h0 h1

/-- Where a live handle's block lies. -/
theorem live_at {bs : List Block} {ls : List Int} {h : Int} (hl : liveF ⟨bs, ls⟩ h = true) : ∃ q : Nat, h = q ∧ q / 8 < bs.length ∧ arenaOk ⟨bs, ls⟩ = true ∧ (bs.getD (q / 8) zeroB).free_ = false ∧ (bs.getD (q / 8) zeroB).gen_ = ((q % 8 : Nat) : Int) ∧ bs.length ≤ 24 ∧ (h / 8).toNat = q / 8 := by
  simp only [liveF, Bool.and_eq_true, inB, decide_eq_true_eq] at hl
  obtain ⟨⟨⟨h1, h2⟩, h3⟩, h4⟩ := hl
  have h24 := (arenaOk_len h1).2
  obtain ⟨q, rfl⟩ : ∃ q : Nat, h = q := ⟨h.toNat, by omega⟩
  have e : ((q : Int) / 8).toNat = q / 8 := by omega
  rw [e] at h3 h4
  exact ⟨q, rfl, by omega, h1, by simpa using h3, by rw [h4]; omega, h24, e⟩

set_option maxRecDepth 100000 in set_option maxHeartbeats 2000000 in
theorem spec_Get0 (v0 : Value) (bs : List Block) (v1 : Value) (ls : List Int) (h k : Int) (w : World) (h0 : Blocks w v0 bs) (h1 : Ints w v1 ls) :
    Calls Try.prog 26 #[.agg #[v0, v1], .int .i64 h, .int .i64 k] w fun e w' => e = .returned (.tuple #[.int .i64 (getF ⟨bs, ls⟩ h k).1, .bool (getF ⟨bs, ls⟩ h k).2]) ∧ Below w.heap.size w w' := by
  obtain ⟨a0, cap0, rfl, hl0, hm0⟩ := h0.form; obtain ⟨a1, cap1, rfl, hl1, hm1⟩ := h1.form; obtain ⟨W1, hW1⟩ : ∃ X, (w.alloc (.cells #[Value.slice a0 bs.length cap0, Value.slice a1 ls.length cap1] 30)) = X := ⟨_, rfl⟩; have hB1 : Below w.heap.size w W1 := by rw [← hW1]; exact Below.alloc (Below.refl _ _) (by simp) _
  have hN : w.heap.size + 1 = W1.heap.size := by rw [← hW1]; simp
  have k0 : W1.cell? ⟨w.heap.size, 0, none⟩ = some (Value.slice a0 bs.length cap0) := by rw [← hW1]; simp [go_sem]
  have k1 : W1.cell? ⟨w.heap.size, 1, none⟩ = some (Value.slice a1 ls.length cap1) := by rw [← hW1]; simp [go_sem]
  have h0w := Blocks.below h0 hB1; have h1w := Ints.below h1 hB1
  cases hok : liveF ⟨bs, ls⟩ h
  case false =>
    have hno := hid (show getF ⟨bs, ls⟩ h k = (0, false) by simp [getF, hok])
    go_enter Try.func26, Try.ntmps26
    go_wp2_with (go_at_call 20; refine (spec_Live0 _ bs _ ls h _ h0w h1w).mono ?_; rintro e w2 ⟨rfl, b2⟩)
    go_ret2
    rw [hno.out]
    exact ⟨rfl, hB1.trans (b2.mono (by omega))⟩
  cases hin : inB k 0 2
  case false =>
    have hno := hid (show getF ⟨bs, ls⟩ h k = (0, false) by simp [getF, hin])
    go_enter Try.func26, Try.ntmps26
    go_wp2_with (first | (go_at_call 20; refine (spec_Live0 _ bs _ ls h _ h0w h1w).mono ?_; rintro e w2 ⟨rfl, b2⟩) | (go_at_call 34; refine (spec_l1In _ _ _ _).mono ?_; rintro e w' ⟨rfl, rfl⟩))
    go_ret2
    rw [hno.out]
    exact ⟨rfl, hB1.trans (b2.mono (by omega))⟩
  obtain ⟨q, rfl, hqn, hA, _, _, hlen24, he⟩ := live_at hok
  have hk : k = 0 ∨ k = 1 ∨ k = 2 := by simp [inB] at hin; omega
  obtain ⟨⟨g, fr, x0, x1, x2⟩, ho⟩ : ∃ o, Hid (bs[q / 8] = o) := ⟨_, hid rfl⟩
  have hgd := hid (show bs.getD (q / 8) zeroB = ⟨g, fr, x0, x1, x2⟩ by rw [List.getD, List.getElem?_eq_getElem hqn]; exact ho.out)
  have hyes := hid (show getF ⟨bs, ls⟩ q k = ([x0, x1, x2].getD k.toNat 0, true) by
    simp only [getF, hok, hin, he, hgd.out]; rfl)
  clear he
  go_enter Try.func26, Try.ntmps26
  go_wp2_with fail
  refine (spec_Live0 _ bs _ ls q _ h0w h1w).mono ?_
  rintro e w2 ⟨rfl, b2⟩
  have q0 := (b2.cell (p := ⟨w.heap.size, 0, none⟩) (show w.heap.size < _ by omega)).trans k0
  obtain ⟨bb, off, rfl, hbs, c0, c1, c2, c3, c4⟩ := Blocks.at (Blocks.below h0w b2) (q / 8) hqn _ ho
  dsimp only at c0 c1 c2 c3 c4
  have hB2 : Below w.heap.size w w2 := hB1.trans (b2.mono (by omega))
  have hz2 := b2.size
  have hlen := bs.length
  rcases hk with rfl | rfl | rfl
  all_goals
    go_wp2_with ((go_at_call 34; refine (spec_l1In _ _ _ _).mono ?_; rintro e w' ⟨rfl, rfl⟩))
    go_ret2
    rw [hyes.out]
    exact ⟨rfl, hB2⟩
theorem spec_Get (v0 : Value) (bs : List Block) (v1 : Value) (ls : List Int) (h k : Int) (w : World) (h0 : Blocks w v0 bs) (_hx0 : bs.length ≤ 1048576) (h1 : Ints w v1 ls) (_hx1 : ls.length ≤ 1048576) :
    Calls Try.prog 26 #[.agg #[v0, v1], .int .i64 h, .int .i64 k] w fun e w' => e = .returned (.tuple #[.int .i64 (getF ⟨bs, ls⟩ h k).1, .bool (getF ⟨bs, ls⟩ h k).2]) ∧ Below w.heap.size w w' := spec_Get0 v0 bs v1 ls h k w h0 h1

set_option maxRecDepth 100000 in set_option maxHeartbeats 2000000 in
theorem spec_Spent0 (v0 : Value) (bs : List Block) (v1 : Value) (ls : List Int) (w : World) (h0 : Blocks w v0 bs) (h1 : Ints w v1 ls) :
    Calls Try.prog 30 #[.agg #[v0, v1]] w fun e w' => e = .returned (.int .i64 (spentF ⟨bs, ls⟩)) ∧ Below w.heap.size w w' := by
  obtain ⟨a0, cap0, rfl, hl0, hm0⟩ := h0.form; obtain ⟨a1, cap1, rfl, hl1, hm1⟩ := h1.form; obtain ⟨W1, hW1⟩ : ∃ X, (w.alloc (.cells #[Value.slice a0 bs.length cap0, Value.slice a1 ls.length cap1] 30)) = X := ⟨_, rfl⟩; have hB1 : Below w.heap.size w W1 := by rw [← hW1]; exact Below.alloc (Below.refl _ _) (by simp) _
  have hN : w.heap.size + 1 = W1.heap.size := by rw [← hW1]; simp
  have k0 : W1.cell? ⟨w.heap.size, 0, none⟩ = some (Value.slice a0 bs.length cap0) := by rw [← hW1]; simp [go_sem]
  have k1 : W1.cell? ⟨w.heap.size, 1, none⟩ = some (Value.slice a1 ls.length cap1) := by rw [← hW1]; simp [go_sem]
  have h0w := Blocks.below h0 hB1; have h1w := Ints.below h1 hB1
  cases hok : arenaOk ⟨bs, ls⟩
  case false =>
    have hno := hid (show spentF ⟨bs, ls⟩ = -1 by simp [spentF, hok])
    go_enter Try.func30, Try.ntmps30
    go_wp2_with (go_at_call 12; refine (spec_ArenaOk0 _ bs _ ls _ h0w h1w).mono ?_; rintro e w2 ⟨rfl, b2⟩)
    go_ret
    exact ⟨ret_int hno.out.symm, hB1.trans (b2.mono (by omega))⟩
  have hlen := (arenaOk_len hok).2
  go_enter Try.func30, Try.ntmps30
  go_wp2_with fail
  refine (spec_ArenaOk0 _ bs _ ls _ h0w h1w).mono ?_
  rintro e w2 ⟨rfl, b2⟩
  have q0 := (b2.cell (p := ⟨w.heap.size, 0, none⟩) (show w.heap.size < _ by omega)).trans k0
  have hB2 : Below w.heap.size w w2 := hB1.trans (b2.mono (by omega))
  have h0w2 := Blocks.below h0w b2
  have hyes := hid (show spentF ⟨bs, ls⟩ = ((bs.take bs.length).countP spentB : Nat) by rw [List.take_length]; simp only [spentF, hok]; rfl)
  have HW := hid hW1
  clear hW1
  go_wp2
  go_loop [3, 4] (fun c i => ∃ k : Nat, k ≤ bs.length ∧ i = .int .i64 k ∧ c = .int .i64 ((bs.take k).countP spentB : Nat)) (fun _ i => bs.length - (intOf i).toNat)
  case atStart => exact ⟨0, by omega, rfl, rfl⟩
  case round =>
    obtain ⟨k, hk, rfl, rfl⟩ := hrel
    have hcnt : (bs.take k).countP spentB ≤ k := Nat.le_trans List.countP_le_length (List.length_take_le _ _)
    by_cases hlt : k < bs.length
    · obtain ⟨⟨g, fr, x0, x1, x2⟩, ho⟩ : ∃ o, Hid (bs[k] = o) := ⟨_, hid rfl⟩
      have hcs := hid (countP_take_succ spentB bs k hlt)
      rw [ho.out] at hcs
      obtain ⟨bb, off, rfl, hbs, c0, c1, c2, c3, c4⟩ := Blocks.at h0w2 k hlt _ ho
      dsimp only at c0 c1 c2 c3 c4
      cases fr
      case false =>
        go_wp2
        go_round
        case rel => exact ⟨k+1, by omega, by go_num, by rw [hcs.out]; rfl⟩
        case measure => simp [intOf]; omega
      case true =>
        cases h5 : (g == 5)
        case false =>
          have hop := hid (show spentB ⟨g, true, x0, x1, x2⟩ = false by simp only [beq_eq_false_iff_ne] at h5; simp [spentB, h5])
          go_wp2
          go_round
          case rel => exact ⟨k+1, by omega, by go_num, by rw [hcs.out, hop.out]; rfl⟩
          case measure => simp [intOf]; omega
        case true =>
          have hop := hid (show spentB ⟨g, true, x0, x1, x2⟩ = true by simp at h5; simp [spentB, h5])
          go_wp2
          go_round
          case rel => exact ⟨k+1, by omega, by go_num, by rw [hcs.out, hop.out]; go_num⟩
          case measure => simp [intOf]; omega
    · obtain rfl : k = bs.length := by omega
      go_wp2
      go_ret
      exact ⟨ret_int (by rw [hyes.out, List.take_length]), hB2⟩
theorem spec_Spent (v0 : Value) (bs : List Block) (v1 : Value) (ls : List Int) (w : World) (h0 : Blocks w v0 bs) (_hx0 : bs.length ≤ 1048576) (h1 : Ints w v1 ls) (_hx1 : ls.length ≤ 1048576) :
    Calls Try.prog 30 #[.agg #[v0, v1]] w fun e w' => e = .returned (.int .i64 (spentF ⟨bs, ls⟩)) ∧ Below w.heap.size w w' := spec_Spent0 v0 bs v1 ls w h0 h1
end Go.Proofs.Ytiibpgbdnbpmoaa
