/- Chapter 2's model: ArenaOk. -/
import Derived.Test.YtdnfphpeleakcaaS2
import Derived.Handy
namespace Go.Proofs.Ytdnfphpeleakcaa
set_option maxRecDepth 100000
open Go.RowKit Go.Proofs Go.Own
set_option linter.unusedVariables false
set_option linter.unusedSimpArgs false

theorem bcellN {N : Nat} {W w1 : World} (hb : Below N W w1) : (∀ b o, b < N → w1.cell? ⟨b, o, none⟩ = W.cell? ⟨b, o, none⟩) ∧ (∀ b o, b < N → w1.frozen? ⟨b, o, none⟩ = W.frozen? ⟨b, o, none⟩) :=
  ⟨fun b o h => hb.cell (p := ⟨b, o, none⟩) h, fun b o h => hb.frozen (p := ⟨b, o, none⟩) h⟩

theorem Ints.at {w : World} {a : Option Addr} {n cap : Nat} {xs : List Int} (h : Ints w (.slice a n cap) xs) (k : Nat) (hk : k < xs.length) : ∃ b off, a = some ⟨b, off, none⟩ ∧ b < w.heap.size ∧ w.cell? ⟨b, off + k, none⟩ = some (.int .i64 xs[k]) := by
  obtain ⟨a', c', e, _, _, hc⟩ := h.open
  obtain ⟨rfl, _⟩ : a = a' ∧ cap = c' := by simp at e; exact ⟨e.1, e.2.2⟩
  exact hc k hk
theorem Blocks.at {w : World} {a : Option Addr} {n cap : Nat} {xs : List Block} (h : Blocks w (.slice a n cap) xs) (k : Nat) (hk : k < xs.length) (o : Block) (ho : Hid (xs[k] = o)) : ∃ b off, a = some ⟨b, off, none⟩ ∧ b < w.heap.size ∧ w.cell? ⟨b, off + k * 5, none⟩ = some (.int .i64 o.gen_) ∧ w.cell? ⟨b, off + k * 5 + 1, none⟩ = some (.bool o.free_) ∧ w.cell? ⟨b, off + k * 5 + 2, none⟩ = some (.int .i64 o.words0_) ∧ w.cell? ⟨b, off + k * 5 + 3, none⟩ = some (.int .i64 o.words1_) ∧ w.cell? ⟨b, off + k * 5 + 4, none⟩ = some (.int .i64 o.words2_) := by
  obtain ⟨a', c', e, _, _, hc⟩ := h.open
  obtain ⟨rfl, _⟩ : a = a' ∧ cap = c' := by simp at e; exact ⟨e.1, e.2.2⟩
  have := hc k hk
  rw [ho.out] at this
  exact this
theorem beq_cast (a b : Nat) : ((a : Int) == (b : Int)) = decide (a = b) := by rw [Bool.eq_iff_iff]; simp; omega
def arenaPre (bs : List Block) (k : Nat) : Prop := ∀ j, (h : j < bs.length) → j < k → blockOk bs[j] = true

theorem arenaPre_succ {bs : List Block} {k : Nat} (h : arenaPre bs k) (hk : k < bs.length) (hb : blockOk bs[k] = true) : arenaPre bs (k+1) := by
  intro j hj hjk
  by_cases e : j = k
  · subst e; exact hb
  · exact h j hj (by omega)
theorem countP_take_succ {α : Type} (p : α → Bool) (xs : List α) (k : Nat) (h : k < xs.length) : (xs.take (k+1)).countP p = (xs.take k).countP p + if p xs[k] = true then 1 else 0 := by
  rw [List.take_add_one, List.getElem?_eq_getElem h, Option.toList_some, List.countP_append, List.countP_singleton]

theorem arenaPre_all {bs : List Block} (h : arenaPre bs bs.length) : bs.all blockOk = true := by
  rw [List.all_eq_true]; intro b hb
  obtain ⟨j, hj, rfl⟩ := List.getElem_of_mem hb
  exact h j hj hj
def listPre (bs : List Block) (ls : List Int) (k : Nat) : Prop := ∀ j, j < k → placeIn ⟨bs, ls⟩ j = true
theorem listPre_succ {bs : List Block} {ls : List Int} {k : Nat} (h : listPre bs ls k) (hb : placeIn ⟨bs, ls⟩ k = true) : listPre bs ls (k+1) := by
  intro j hjk
  by_cases e : j = k
  · subst e; exact hb
  · exact h j (by omega)
theorem arenaOk_end {bs : List Block} {ls : List Int} (hn : inB bs.length 1 24 = true) (ha : bs.all blockOk = true) (h : listPre bs ls ls.length) : arenaOk ⟨bs, ls⟩ = decide (ls.length = bs.countP openB) := by
  have : (List.range ls.length).all (placeIn ⟨bs, ls⟩) = true := by
    rw [List.all_eq_true]; intro j hj; exact h j (List.mem_range.1 hj)
  simp [arenaOk, hn, ha, this]
theorem arenaOk_place {bs : List Block} {ls : List Int} {k : Nat} (hk : k < ls.length) (h : placeIn ⟨bs, ls⟩ k = false) : arenaOk ⟨bs, ls⟩ = false := by
  have : (List.range ls.length).all (placeIn ⟨bs, ls⟩) = false := by
    rw [List.all_eq_false]; exact ⟨k, List.mem_range.2 hk, by simp [h]⟩
  simp [arenaOk, this]
theorem placeIn_at {bs : List Block} {ls : List Int} {k : Nat} (hk : k < ls.length) (p : Int) (hp : ls[k] = p) : placeIn ⟨bs, ls⟩ k = (inB p 0 (bs.length - 1) && (bs.getD p.toNat zeroB).free_ && !decide ((bs.getD p.toNat zeroB).gen_ = 5) && !hasFrom (ls.take k) p 0) := by
  have e : ls.getD k 0 = p := by rw [List.getD, List.getElem?_eq_getElem hk]; exact hp
  simp only [placeIn]; rw [e]

set_option maxRecDepth 100000 in
set_option maxHeartbeats 2000000 in
theorem spec_ArenaOk0 (v0 : Value) (bs : List Block) (v1 : Value) (ls : List Int) (w : World) (h0 : Blocks w v0 bs) (h1 : Ints w v1 ls) :
    Calls Try.prog 52 #[.agg #[v0, v1]] w fun e w' => e = .returned (.bool (arenaOk ⟨bs, ls⟩)) ∧ Below w.heap.size w w' := by
  obtain ⟨a0, cap0, rfl, hl0, hm0, hc0⟩ := Blocks.open h0
  obtain ⟨a1, cap1, rfl, hl1, hm1, hc1⟩ := Ints.open h1
  cases hn : inB bs.length 1 24
  case false =>
    have HA : Hid (arenaOk ⟨bs, ls⟩ = false) := hid (by simp [arenaOk, hn])
    clear hc0 hc1
    go_enter Try.func52, Try.ntmps52
    go_wp2_with (go_at_call 53; refine (spec_l1In _ _ _ _).mono ?_; rintro e w' ⟨rfl, rfl⟩)
    go_ret
    exact ⟨ret_bool HA.out.symm, (Below.refl _ _).alloc (Nat.le_refl _) _⟩
  obtain ⟨W1, hW1⟩ : ∃ X, (w.alloc (.cells #[Value.slice a0 bs.length cap0, Value.slice a1 ls.length cap1] 27)) = X := ⟨_, rfl⟩
  have hB1 : Below w.heap.size w W1 := by rw [← hW1]; exact Below.alloc (Below.refl _ _) (by simp) _
  have hN : W1.heap.size = w.heap.size + 1 := by rw [← hW1]; simp
  have k0 : W1.cell? ⟨w.heap.size, 0, none⟩ = some (Value.slice a0 bs.length cap0) := by rw [← hW1]; simp [go_sem]
  have k1 : W1.cell? ⟨w.heap.size, 1, none⟩ = some (Value.slice a1 ls.length cap1) := by rw [← hW1]; simp [go_sem]
  have HN := hid hN
  clear hN
  go_enter Try.func52, Try.ntmps52
  go_wp2_with (go_at_call 53; refine (spec_l1In _ _ _ _).mono ?_; rintro e w' ⟨rfl, rfl⟩)
  clear hW1
  go_loopw [3, 4] (fun f i wr => ∃ k : Nat, k ≤ bs.length ∧ i = .int .i64 k ∧ f = .int .i64 ((bs.take k).countP openB : Nat) ∧ arenaPre bs k ∧ Below W1.heap.size W1 wr) (fun _ i _ => bs.length - (intOf i).toNat)
  case atStart => exact ⟨0, by omega, rfl, rfl, (by intro j _ h; omega), Below.refl _ _⟩
  case round =>
    obtain ⟨k, hk, rfl, rfl, hpre, hB⟩ := hrel
    have hcnt : (bs.take k).countP openB ≤ k := Nat.le_trans List.countP_le_length (List.length_take_le _ _)
    have q0 : wr.cell? ⟨w.heap.size, 0, none⟩ = some (Value.slice a0 bs.length cap0) := (hB.cell (p := ⟨w.heap.size, 0, none⟩) (by have := HN.out; show w.heap.size < _; omega)).trans k0
    have q1 : wr.cell? ⟨w.heap.size, 1, none⟩ = some (Value.slice a1 ls.length cap1) := (hB.cell (p := ⟨w.heap.size, 1, none⟩) (by have := HN.out; show w.heap.size < _; omega)).trans k1
    have hz : W1.heap.size ≤ wr.heap.size := hB.size
    have hne : (w.heap.size == wr.heap.size) = false := by have := HN.out; simp; omega
    by_cases hlt : k < bs.length
    · obtain ⟨bb, off, rfl, hbs, c0, c1, c2, c3, c4⟩ := hc0 k hlt
      have hbb : bb < W1.heap.size := by have := HN.out; omega
      have hBw : Below w.heap.size w wr := hB1.trans (hB.mono (by have := HN.out; omega))
      have kc : ∀ o, wr.cell? ⟨bb, o, none⟩ = w.cell? ⟨bb, o, none⟩ := fun o => hBw.cell (p := ⟨bb, o, none⟩) hbs
      rw [← kc] at c0 c1 c2 c3 c4
      clear hc0 hc1 kc k0 k1
      have hst : Hid (blockOk bs[k] = false → arenaOk ⟨bs, ls⟩ = false) := hid fun h => by
        have : bs.all blockOk = false := by
          rw [List.all_eq_false]; exact ⟨bs[k], List.getElem_mem hlt, by simp [h]⟩
        simp [arenaOk, this]
      have hbk : ∃ o, Hid (bs[k] = o) := ⟨_, hid rfl⟩
      obtain ⟨⟨g, fr, x0, x1, x2⟩, hbk⟩ := hbk
      have hbk' := hbk.out
      rw [hbk'] at c0 c1 c2 c3 c4
      clear hbk'
      dsimp only at c0 c1 c2 c3 c4
      rw [hbk.out] at hst
      have hbOut : Hid (blockOk ⟨g, fr, x0, x1, x2⟩ = (inB g 0 5 && !(!fr && decide (g = 5)) && (isVal x0 && (isVal x1 && isVal x2)))) := hid (by simp [blockOk, Block.words, Bool.and_assoc])
      have hend : Below w.heap.size w (wr.alloc (.cells #[.int .i64 g, .bool fr, .int .i64 x0, .int .i64 x1, .int .i64 x2] 64)) := Below.alloc hBw (by have := HN.out; omega) _
      cases h1 : inB g 0 5
      case false =>
        go_wp2_with (first | (go_at_call 53; refine (spec_l1In _ _ _ _).mono ?_; rintro e w' ⟨rfl, rfl⟩))
        go_ret
        exact ⟨ret_bool (hst.out (by rw [hbOut.out, h1]; rfl)).symm, hend⟩
      have hg := hid (show 0 ≤ g ∧ g ≤ 5 by simpa [inB] using h1)
      by_cases h2 : fr = false ∧ g = 5
      · obtain ⟨rfl, rfl⟩ := h2
        go_wp2_with (first | (go_at_call 53; refine (spec_l1In _ _ _ _).mono ?_; rintro e w' ⟨rfl, rfl⟩))
        go_ret
        exact ⟨ret_bool (hst.out (by rw [hbOut.out]; rfl)).symm, hend⟩
      have h2' := hid h2
      have hgd : Hid ((!(!fr && decide (g = 5))) = true) := hid (by cases fr <;> simp_all)
      clear h2
      cases hx0 : isVal x0
      case false =>
        all_goals cases fr
        case' false => have h5 : (g == 5) = false := by have := h2'.out; simp at this; simpa using this
        all_goals go_wp2_with (first | (go_at_call 53; refine (spec_l1In _ _ _ _).mono ?_; rintro e w' ⟨rfl, rfl⟩))
        all_goals refine wp_loop_rounds 4 ?_
        all_goals repeat (any_goals (rw [rounds_succ]; go_wp2_with (first | (go_at_call 87; refine (spec_l1Value _ _).mono ?_; rintro e w' ⟨rfl, rfl⟩))))
        all_goals go_ret
        all_goals exact ⟨ret_bool (hst.out (by rw [hbOut.out, hx0]; simp)).symm, hend⟩
      cases hx1 : isVal x1
      case false =>
        all_goals cases fr
        case' false => have h5 : (g == 5) = false := by have := h2'.out; simp at this; simpa using this
        all_goals go_wp2_with (first | (go_at_call 53; refine (spec_l1In _ _ _ _).mono ?_; rintro e w' ⟨rfl, rfl⟩))
        all_goals refine wp_loop_rounds 4 ?_
        all_goals repeat (any_goals (rw [rounds_succ]; go_wp2_with (first | (go_at_call 87; refine (spec_l1Value _ _).mono ?_; rintro e w' ⟨rfl, rfl⟩))))
        all_goals go_ret
        all_goals exact ⟨ret_bool (hst.out (by rw [hbOut.out, hx1]; simp)).symm, hend⟩
      cases hx2 : isVal x2
      case false =>
        all_goals cases fr
        case' false => have h5 : (g == 5) = false := by have := h2'.out; simp at this; simpa using this
        all_goals go_wp2_with (first | (go_at_call 53; refine (spec_l1In _ _ _ _).mono ?_; rintro e w' ⟨rfl, rfl⟩))
        all_goals refine wp_loop_rounds 4 ?_
        all_goals repeat (any_goals (rw [rounds_succ]; go_wp2_with (first | (go_at_call 87; refine (spec_l1Value _ _).mono ?_; rintro e w' ⟨rfl, rfl⟩))))
        all_goals go_ret
        all_goals exact ⟨ret_bool (hst.out (by rw [hbOut.out, hx2]; simp)).symm, hend⟩
      have hok := hid (show blockOk bs[k] = true by rw [hbk.out, hbOut.out, hgd.out, hx0, hx1, hx2, h1]; rfl)
      have hpre' := arenaPre_succ hpre hlt hok.out
      have hcs := hid (countP_take_succ openB bs k hlt)
      rw [hbk.out] at hcs
      have hBn : Below W1.heap.size W1 (wr.alloc (.cells #[.int .i64 g, .bool fr, .int .i64 x0, .int .i64 x1, .int .i64 x2] 64)) := Below.alloc hB (by omega) _
      clear hpre
      cases fr
      case false =>
        have h5 : (g == 5) = false := by have := h2'.out; simp at this; simpa using this
        go_wp2_with (first | (go_at_call 53; refine (spec_l1In _ _ _ _).mono ?_; rintro e w' ⟨rfl, rfl⟩))
        refine wp_loop_rounds 4 ?_
        repeat (any_goals (rw [rounds_succ]; go_wp2_with (first | (go_at_call 87; refine (spec_l1Value _ _).mono ?_; rintro e w' ⟨rfl, rfl⟩))))
        go_roundw
        case rel => exact ⟨k+1, by omega, by go_num, by rw [hcs.out]; rfl, hpre', hBn⟩
        case measure => simp [intOf]; omega
      case true =>
        by_cases h5 : g < 5
        · have h5' : decide (g < 5) = true := by simpa using h5
          have hop := hid (show openB ⟨g, true, x0, x1, x2⟩ = true by simp [openB, h5])
          clear h5
          go_wp2_with (first | (go_at_call 53; refine (spec_l1In _ _ _ _).mono ?_; rintro e w' ⟨rfl, rfl⟩))
          refine wp_loop_rounds 4 ?_
          repeat (any_goals (rw [rounds_succ]; go_wp2_with (first | (go_at_call 87; refine (spec_l1Value _ _).mono ?_; rintro e w' ⟨rfl, rfl⟩))))
          go_roundw
          case rel => exact ⟨k+1, by omega, by go_num, by rw [hcs.out, hop.out]; go_num, hpre', hBn⟩
          case measure => simp [intOf]; omega
        · have h5' : decide (g < 5) = false := by simpa using h5
          have hop := hid (show openB ⟨g, true, x0, x1, x2⟩ = false by simp [openB]; omega)
          clear h5
          go_wp2_with (first | (go_at_call 53; refine (spec_l1In _ _ _ _).mono ?_; rintro e w' ⟨rfl, rfl⟩))
          refine wp_loop_rounds 4 ?_
          repeat (any_goals (rw [rounds_succ]; go_wp2_with (first | (go_at_call 87; refine (spec_l1Value _ _).mono ?_; rintro e w' ⟨rfl, rfl⟩))))
          go_roundw
          case rel => exact ⟨k+1, by omega, by go_num, by rw [hcs.out, hop.out]; rfl, hpre', hBn⟩
          case measure => simp [intOf]; omega
    · obtain rfl : k = bs.length := by omega
      have hall := hid (arenaPre_all hpre)
      rw [List.take_length] at hcnt ⊢
      obtain ⟨F, hF⟩ : ∃ F, Hid (bs.countP openB = F) := ⟨_, hid rfl⟩
      rw [hF.out] at hcnt ⊢
      have hBw : Below w.heap.size w wr := hB1.trans (hB.mono (by have := HN.out; omega))
      have hn' := hid hn
      have hnl : bs.length ≤ 24 := by simp [inB] at hn; omega
      have h1w := Ints.below h1 hBw
      have h0w := Blocks.below h0 hBw
      have hz1 := hid hz
      clear hc0 k0 k1 hpre hne hB hc1 hn hlt hk hz
      go_wp2
      go_loop [7] (fun i => ∃ k : Nat, k ≤ ls.length ∧ i = .int .i64 k ∧ listPre bs ls k) (fun i => ls.length - (intOf i).toNat)
      case atStart => exact ⟨0, by omega, rfl, (by intro j h; omega)⟩
      case round =>
        obtain ⟨k, hk, rfl, hpre⟩ := hrel
        by_cases hlt : k < ls.length
        · obtain ⟨bb, off, rfl, hbs, d0⟩ := Ints.at h1w k hlt
          obtain ⟨p, hp⟩ : ∃ p, Hid (ls[k] = p) := ⟨_, hid rfl⟩
          rw [hp.out] at d0
          have hpl := hid (placeIn_at (bs := bs) hlt p hp.out)
          have hno := hid (arenaOk_place (bs := bs) hlt)
          cases e1 : inB p 0 (bs.length - 1)
          case false =>
            have hno2 := hid (hno.out (by rw [hpl.out, e1]; rfl))
            go_wp2_with (first | (go_at_call 53; refine (spec_l1In _ _ _ _).mono ?_; rintro e w' ⟨rfl, rfl⟩))
            go_ret
            exact ⟨ret_bool hno2.out.symm, hBw⟩
          obtain ⟨q, hq, hqn⟩ : ∃ q : Nat, p = q ∧ q < bs.length := ⟨p.toNat, by simp [inB] at e1; omega, by simp [inB] at e1; omega⟩
          subst hq
          obtain ⟨⟨g, fr, x0, x1, x2⟩, ho⟩ : ∃ o, Hid (bs[q] = o) := ⟨_, hid rfl⟩
          obtain ⟨bb2, off2, rfl, hbs2, c0, c1, c2, c3, c4⟩ := Blocks.at h0w q hqn _ ho
          have hgd := hid (show bs.getD q zeroB = ⟨g, fr, x0, x1, x2⟩ by rw [List.getD, List.getElem?_eq_getElem hqn]; exact ho.out)
          rw [Int.toNat_natCast, hgd.out] at hpl
          dsimp only at c0 c1 c2 c3 c4 hpl
          have hcut := Ints.cut h1w rfl k hk
          cases fr
          case false =>
            have hno2 := hid (hno.out (by rw [hpl.out, e1]; rfl))
            go_wp2_with (first | (go_at_call 53; refine (spec_l1In _ _ _ _).mono ?_; rintro e w' ⟨rfl, rfl⟩))
            go_ret
            exact ⟨ret_bool hno2.out.symm, hBw⟩
          cases e5 : (g == 5)
          case true =>
            have hno2 := hid (hno.out (by rw [hpl.out, e1]; simp [show g = 5 by simpa using e5]))
            go_wp2_with (first | (go_at_call 53; refine (spec_l1In _ _ _ _).mono ?_; rintro e w' ⟨rfl, rfl⟩))
            go_ret
            exact ⟨ret_bool hno2.out.symm, hBw⟩
          have he5 := hid e5
          cases e6 : hasFrom (ls.take k) q 0
          case true =>
            have hno2 := hid (hno.out (by rw [hpl.out, e1, e6]; simp))
            go_wp2_with (first | (go_at_call 53; refine (spec_l1In _ _ _ _).mono ?_; rintro e w' ⟨rfl, rfl⟩) | (go_at_call 76; refine (spec_l1Has _ _ _ _ hcut).mono ?_; rintro e w' ⟨rfl, rfl⟩))
            go_ret
            exact ⟨ret_bool hno2.out.symm, hBw⟩
          have hyes := listPre_succ hpre (by rw [hpl.out, e1, e6]; simp [show ¬ g = 5 by simpa using he5.out])
          go_wp2_with (first | (go_at_call 53; refine (spec_l1In _ _ _ _).mono ?_; rintro e w' ⟨rfl, rfl⟩) | (go_at_call 76; refine (spec_l1Has _ _ _ _ hcut).mono ?_; rintro e w' ⟨rfl, rfl⟩))
          go_round
          case rel => exact ⟨k+1, by omega, by go_num, hyes⟩
          case measure => simp [intOf]; omega
        · obtain rfl : k = ls.length := by omega
          have hfin := hid (arenaOk_end hn'.out hall.out hpre)
          rw [hF.out] at hfin
          go_wp2
          go_ret
          refine ⟨ret_bool ?_, hBw⟩; rw [hfin.out]; exact beq_cast _ _
theorem spec_ArenaOk (v0 : Value) (bs : List Block) (v1 : Value) (ls : List Int) (w : World) (h0 : Blocks w v0 bs) (_hx0 : bs.length ≤ 1048576) (h1 : Ints w v1 ls) (_hx1 : ls.length ≤ 1048576) :
    Calls Try.prog 52 #[.agg #[v0, v1]] w fun e w' => e = .returned (.bool (arenaOk ⟨bs, ls⟩)) ∧ Below w.heap.size w w' := spec_ArenaOk0 v0 bs v1 ls w h0 h1
end Go.Proofs.Ytdnfphpeleakcaa
