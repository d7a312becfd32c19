/- Chapter 3's program: retiredOk, YardOk. -/
import Derived.Test.YtdnfphpeleakcaaI3a
namespace Go.Own
set_option maxRecDepth 100000
open Go.RowKit
theorem Box.other {w : World} {b : Nat} {cs : List Value} (h : Box w b cs) (a : Addr) (v : Value) (ha : a.block ≠ b) : Box (w.setCell a v) b cs :=
  ⟨by simpa [World.setCell] using h.1, fun j hj => by rw [World.cell?_setCell_other _ _ _ _ (by intro e; exact ha (by rw [e]))]; exact h.2 j hj⟩
end Go.Own
namespace Go.Proofs.Ytdnfphpeleakcaa
open Go.RowKit Go.Proofs Go.Own
open Go Go.BigFrame
set_option linter.unusedVariables false
set_option linter.unusedSimpArgs false

def placesOf (gs : List Gone) : List Int := gs.map fun g => g.handle_ / 8
def lastF (gs : List Gone) (k : Nat) : Int := if k = 0 then 0 else (gs.getD (k - 1) zeroG).pass_
theorem lastF_succ {gs : List Gone} {k : Nat} (hk : k < gs.length) (h p : Int) (hg : gs[k] = ⟨h, p⟩) : lastF gs (k + 1) = p := by
  rw [lastF, if_neg (by omega), Nat.add_sub_cancel, List.getD, List.getElem?_eq_getElem hk, hg]; rfl
theorem findF_mem (l : List Gone) (h : Int) : 0 ≤ findF l h ↔ ∃ g ∈ l, g.handle_ = h := by
  induction l with
  | nil => simp [findF]
  | cons g l ih =>
    have hge := findF_ge l h
    simp only [findF, List.mem_cons]
    by_cases e : g.handle_ = h
    · simp [e]
    · simp only [e, if_false]
      constructor
      · intro hh
        by_cases e2 : findF l h = -1
        · simp [e2] at hh
        · obtain ⟨x, hx, he⟩ := ih.1 (by omega)
          exact ⟨x, .inr hx, he⟩
      · rintro ⟨x, (rfl | hx), he⟩
        · exact absurd he e
        · have := ih.2 ⟨x, hx, he⟩
          rw [if_neg (by omega)]; omega
theorem live_inj {a : Arena} {h1 h2 : Int} (e1 : liveF a h1 = true) (e2 : liveF a h2 = true) (e : h1 / 8 = h2 / 8) : h1 = h2 := by
  simp only [liveF, Bool.and_eq_true, decide_eq_true_eq] at e1 e2
  have a1 := e1.2; have a2 := e2.2
  rw [e] at a1
  omega
theorem live_place {bs : List Block} {ls : List Int} {h : Int} (e : liveF ⟨bs, ls⟩ h = true) : arenaOk ⟨bs, ls⟩ = true ∧ 0 ≤ h ∧ (h / 8).toNat < bs.length := by
  simp only [liveF, Bool.and_eq_true, inB, decide_eq_true_eq] at e
  exact ⟨e.1.1.1, by omega, by omega⟩
theorem seen_iff {y : Yard} {k : Nat} (hk : k < y.retired.length) (h : Int) (hpre : yardPre y k) (hl : liveF y.arena h = true) :
    hasFrom ((placesOf y.retired).take k) (h / 8) 0 = decide (0 ≤ findF (y.retired.take k) h) := by
  rw [Bool.eq_iff_iff, hasFrom_true, decide_eq_true_eq, findF_mem]
  simp only [placesOf, ← List.map_take, List.mem_map]
  constructor
  · rintro ⟨g, hg, he⟩
    obtain ⟨j, hj, rfl⟩ := List.mem_take_iff_getElem.1 hg
    have hok := hpre j (by omega)
    have hjk : j < y.retired.length := by omega
    have e : y.retired.getD j zeroG = y.retired[j] := by rw [List.getD, List.getElem?_eq_getElem hjk]; rfl
    simp only [goneOk, e, Bool.and_eq_true] at hok
    exact ⟨_, hg, live_inj hok.1.1.1 hl he⟩
  · rintro ⟨g, hg, rfl⟩
    exact ⟨g, hg, rfl⟩
theorem lastF_ge {y : Yard} {k : Nat} (hpre : yardPre y k) : 0 ≤ lastF y.retired k := by
  simp only [lastF]
  split
  · exact Int.le_refl _
  · have hok := hpre (k - 1) (by omega)
    simp only [goneOk, Bool.and_eq_true, inB, decide_eq_true_eq] at hok
    exact hok.1.1.2.1
theorem goneOk_step {a : Arena} {ps : List Int} {gs : List Gone} {n : Int} {k : Nat} (hk : k < gs.length) (h p : Int) (hg : gs[k] = ⟨h, p⟩) (hpre : yardPre ⟨a, ps, gs, n⟩ k) :
    goneOk ⟨a, ps, gs, n⟩ k = (liveF a h && (!hasFrom ((placesOf gs).take k) (h / 8) 0 && (!decide (p < lastF gs k) && !decide (n < p)))) := by
  rw [goneOk_at hk h p hg]
  cases hl : liveF a h
  case false => rfl
  have hs := seen_iff (y := ⟨a, ps, gs, n⟩) hk h hpre hl
  have hge := lastF_ge hpre
  dsimp only at hs hge
  rw [hs]
  cases decide (0 ≤ findF (gs.take k) h)
  case true => simp
  simp only [Bool.true_and, Bool.not_false, Bool.and_true]
  rw [Bool.eq_iff_iff]
  by_cases h0 : k = 0
  · subst h0; simp [inB, lastF]
  · simp only [lastF, if_neg h0] at hge ⊢
    generalize (gs.getD (k - 1) zeroG).pass_ = f at hge ⊢
    simp [inB, Nat.pos_of_ne_zero h0]
    omega
def retOkF (y : Yard) : Bool := decide (y.retired.length ≤ 24) && (List.range y.retired.length).all (goneOk y)
theorem retOk_no {y : Yard} {k : Nat} (hk : k < y.retired.length) (h : goneOk y k = false) : retOkF y = false := by
  have : (List.range y.retired.length).all (goneOk y) = false := by
    rw [List.all_eq_false]; exact ⟨k, List.mem_range.2 hk, by simp [h]⟩
  rw [retOkF, this, Bool.and_false]
theorem retOk_end {y : Yard} (h24 : y.retired.length ≤ 24) (h : yardPre y y.retired.length) : retOkF y = true := by
  have : (List.range y.retired.length).all (goneOk y) = true := by
    rw [List.all_eq_true]; intro j hj; exact h j (List.mem_range.1 hj)
  simp [retOkF, this, h24]

set_option maxRecDepth 100000 in set_option maxHeartbeats 2000000 in
theorem impl_retiredOk (v0 : Value) (bs : List Block) (v1 : Value) (ls : List Int) (v2 : Value) (ps : List Int) (v3 : Value) (gs : List Gone) (n : Int) (w : World) (h0 : Blocks w v0 bs) (h1 : Ints w v1 ls) (h2 : Ints w v2 ps) (h3 : Gones w v3 gs) (hgi : GonesIn gs) :
    Calls Try.prog 61 #[.agg #[v0, v1, v2, v3, .int .i64 n]] w fun e w' => e = .returned (.bool (retOkF ⟨⟨bs, ls⟩, ps, gs, n⟩)) ∧ Below w.heap.size w w' := by
  obtain ⟨a0, cap0, rfl, hl0, hm0⟩ := h0.form; obtain ⟨a1, cap1, rfl, hl1, hm1⟩ := h1.form; obtain ⟨a2, cap2, rfl, hl2, hm2⟩ := h2.form; obtain ⟨a3, cap3, rfl, hl3, hm3⟩ := h3.form; obtain ⟨W1, hW1⟩ : ∃ X, (w.alloc (.cells #[Value.slice a0 bs.length cap0, Value.slice a1 ls.length cap1, Value.slice a2 ps.length cap2, Value.slice a3 gs.length cap3, .int .i64 n] 30)) = X := ⟨_, rfl⟩; have hB1 : Below w.heap.size w W1 := by rw [← hW1]; exact Below.alloc (Below.refl _ _) (by simp) _
  have hN : w.heap.size + 1 = W1.heap.size := by rw [← hW1]; simp
  have yb : Box W1 w.heap.size [Value.slice a0 bs.length cap0, Value.slice a1 ls.length cap1, Value.slice a2 ps.length cap2, Value.slice a3 gs.length cap3, .int .i64 n] := by rw [← hW1]; exact Box.alloc _ _ _
  have k3 : W1.cell? ⟨w.heap.size, 3, none⟩ = some (Value.slice a3 gs.length cap3) := yb.2 3 (by simp)
  have h0w := Blocks.below h0 hB1; have h1w := Ints.below h1 hB1; have h3w := Gones.below h3 hB1
  go_enter Try.func61, Try.ntmps61
  cases h24 : decide (24 < (gs.length : Int))
  case true =>
    have hno := hid (show retOkF ⟨⟨bs, ls⟩, ps, gs, n⟩ = false by simp at h24; simp [retOkF]; omega)
    go_wp2
    go_ret
    exact ⟨ret_bool hno.out.symm, hB1⟩
  have h24' := hid (show gs.length ≤ 24 by simp at h24; omega)
  obtain ⟨W2, hW2⟩ : ∃ X, (W1.alloc (.cells #[Value.bool false, Value.bool false, Value.bool false, Value.bool false, Value.bool false, Value.bool false, Value.bool false, Value.bool false, Value.bool false, Value.bool false, Value.bool false, Value.bool false, Value.bool false, Value.bool false, Value.bool false, Value.bool false, Value.bool false, Value.bool false, Value.bool false, Value.bool false, Value.bool false, Value.bool false, Value.bool false, Value.bool false] 93)) = X := ⟨_, rfl⟩
  have hB2 : Below W1.heap.size W1 W2 := by rw [← hW2]; exact Below.alloc (Below.refl _ _) (Nat.le_refl _) _
  have hN2 : w.heap.size + 2 = W2.heap.size := by rw [← hW2]; simp; omega
  have hS := hid hN2
  have hN1 := hid hN
  have yb2 := yb.below hB2
  have rb : RowB W2 W1.heap.size (markF (placesOf gs) 0) := by rw [← hW2, markF_zero]; exact RowB.alloc W1 zB 93 _ rfl
  have k32 : W2.cell? ⟨w.heap.size, 3, none⟩ = some (Value.slice a3 gs.length cap3) := yb2.2 3 (by simp)
  have hBw : Below w.heap.size w W2 := hB1.trans (hB2.mono (by omega))
  have h0v := Blocks.below h0 hBw; have h1v := Ints.below h1 hBw; have h3v := Gones.below h3 hBw
  go_wp2
  clear hW1 hW2 k3 k32 yb h0w h1w h3w h24
  go_loopw [16, 4] (fun i last wr => ∃ k : Nat, k ≤ gs.length ∧ i = .int .i64 k ∧ last = .int .i64 (lastF gs k) ∧ yardPre ⟨⟨bs, ls⟩, ps, gs, n⟩ k ∧ Box wr w.heap.size [Value.slice a0 bs.length cap0, Value.slice a1 ls.length cap1, Value.slice a2 ps.length cap2, Value.slice a3 gs.length cap3, .int .i64 n] ∧ RowB wr W1.heap.size (markF (placesOf gs) k) ∧ Below w.heap.size w wr ∧ w.heap.size + 2 ≤ wr.heap.size) (fun i _ _ => gs.length - (intOf i).toNat)
  case atStart => exact ⟨0, by omega, rfl, rfl, (by intro j h; omega), yb2, rb, hBw, by have := hS.out; omega⟩
  case round =>
    clear yb2 rb hBw h0v h1v h3v
    obtain ⟨k, hk, rfl, rfl, hpre, yb, rb, hB, hsz⟩ := hrel
    by_cases hlt : k < gs.length
    · obtain ⟨⟨h, p⟩, ho⟩ : ∃ o, Hid (gs[k] = o) := ⟨_, hid rfl⟩
      have hbh : InI h := by have := hgi gs[k] (List.getElem_mem hlt); rw [ho.out] at this; exact this
      have hgone := hid (goneOk_step hlt h p ho.out hpre)
      have hno := hid (retOk_no (y := ⟨⟨bs, ls⟩, ps, gs, n⟩) hlt)
      obtain ⟨bb, off, rfl, hbs, c0, c1⟩ := Gones.at (Gones.below h3 hB) k hlt _ ho
      dsimp only at c0 c1
      obtain ⟨V, hV⟩ : ∃ X, (wr.alloc (.cells #[.int .i64 h, .int .i64 p] 70)) = X := ⟨_, rfl⟩
      have hBV : Below wr.heap.size wr V := by rw [← hV]; exact Below.alloc (Below.refl _ _) (Nat.le_refl _) _
      have hNV : wr.heap.size + 1 = V.heap.size := by rw [← hV]; simp
      have g0 : V.cell? ⟨wr.heap.size, 0, none⟩ = some (.int .i64 h) := by rw [← hV]; simp [go_sem]
      have g1 : V.cell? ⟨wr.heap.size, 1, none⟩ = some (.int .i64 p) := by rw [← hV]; simp [go_sem]
      have hBwV : Below w.heap.size w V := hB.trans (hBV.mono (by omega))
      have h0V := Blocks.below h0 hBwV
      have h1V := Ints.below h1 hBwV
      have ybV := yb.below hBV
      have rbV := rb.below hBV
      have y0 : V.cell? ⟨w.heap.size, 0, none⟩ = some (Value.slice a0 bs.length cap0) := ybV.2 0 (by simp)
      have y1 : V.cell? ⟨w.heap.size, 1, none⟩ = some (Value.slice a1 ls.length cap1) := ybV.2 1 (by simp)
      have hne : (w.heap.size == wr.heap.size) = false := by simp; omega
      clear rb
      go_wp2_with fail
      (go_at_call 80; refine (impl_livePlace _ bs _ ls h _ h0V h1V hbh).mono ?_; rintro e w5 ⟨rfl, b5⟩)
      have hV5 : Below V.heap.size V w5 := b5
      have ybE := ybV.below b5
      have rbE := rbV.below b5
      have y4 : w5.cell? ⟨w.heap.size, 4, none⟩ = some (.int .i64 n) := ybE.2 4 (by simp)
      have e0 : w5.cell? ⟨wr.heap.size, 0, none⟩ = some (.int .i64 h) := (b5.cell (p := ⟨wr.heap.size, 0, none⟩) (by show wr.heap.size < _; omega)).trans g0
      have e1 : w5.cell? ⟨wr.heap.size, 1, none⟩ = some (.int .i64 p) := (b5.cell (p := ⟨wr.heap.size, 1, none⟩) (by show wr.heap.size < _; omega)).trans g1
      have hBw5 : Below w.heap.size w w5 := hBwV.trans (b5.mono (by omega))
      have hz5 := b5.size
      have hZ := hid (show w.heap.size + 2 ≤ w5.heap.size by omega)
      clear hV hBV g0 g1 h0V h1V ybV rbV y0 y1 b5 hBwV yb c0 c1 hV5
      cases hl : liveF ⟨bs, ls⟩ h
      case false =>
        have hno2 := hid (hno.out (by rw [hgone.out, hl]; rfl))
        go_wp2
        go_ret
        exact ⟨ret_bool hno2.out.symm, hBw5⟩
      obtain ⟨hok, hh0, hhb⟩ := live_place hl
      have hq24 := (arenaOk_len hok).2
      obtain ⟨q, hq⟩ : ∃ q : Nat, h / 8 = q := ⟨(h / 8).toNat, by omega⟩
      have hqb : q < 24 := by omega
      have hlp := hid (show lpF ⟨bs, ls⟩ h = q by rw [lpF_live hl, hq])
      rw [hlp.out]
      obtain ⟨sc, sf⟩ := rbE.cell q _ (markF_get (placesOf gs) k q hqb)
      rw [hl, hq] at hgone
      clear hh0 hhb hok hlp
      have hqI : (q : Int) < 24 := by omega
      cases hs : hasFrom ((placesOf gs).take k) q 0
      case true =>
        rw [hs] at sc
        have hno2 := hid (hno.out (by rw [hgone.out, hs]; rfl))
        go_wp2
        go_ret
        exact ⟨ret_bool hno2.out.symm, hBw5⟩
      rw [hs] at sc
      cases hp1 : decide (p < lastF gs k)
      case true =>
        have hno2 := hid (hno.out (by rw [hgone.out, hs, hp1]; rfl))
        go_wp2
        go_ret
        exact ⟨ret_bool hno2.out.symm, hBw5⟩
      cases hp2 : decide (n < p)
      case true =>
        have hno2 := hid (hno.out (by rw [hgone.out, hs, hp1, hp2]; rfl))
        go_wp2
        go_ret
        exact ⟨ret_bool hno2.out.symm, hBw5⟩
      have hyes := hid (yardPre_succ hpre (by rw [hgone.out, hs, hp1, hp2]; rfl))
      have hla := hid (lastF_succ hlt h p ho.out)
      have s0 := hid (ybE.other ⟨W1.heap.size, q, none⟩ (.bool true) (by show W1.heap.size ≠ w.heap.size; have := hN1.out; omega))
      have s1 := hid (rbE.set q true)
      rw [← markF_succ (placesOf gs) k q (by simp [placesOf]; exact hlt) (by simp only [placesOf, List.getElem_map, ho.out]; exact hq) hqb] at s1
      have sB := hid (hBw5.setCell (p := ⟨W1.heap.size, q, none⟩) (by show w.heap.size ≤ W1.heap.size; have := hN1.out; omega) (.bool true))
      have hx1 : (W1.heap.size == wr.heap.size) = false := by have := hN1.out; simp; omega
      have e1' : (w5.setCell ⟨W1.heap.size, q, none⟩ (.bool true)).cell? ⟨wr.heap.size, 1, none⟩ = some (.int .i64 p) := by rw [World.cell?_setCell_other _ _ _ _ (by intro e; simp only [Addr.mk.injEq] at e; have := hN1.out; omega)]; exact e1
      clear hpre ybE rbE
      go_wp2
      go_roundw
      case rel => exact ⟨k+1, by omega, by go_num, by rw [hla.out], hyes.out, s0.out, s1.out, sB.out, by have := hZ.out; simp [World.setCell]; omega⟩
      case measure => simp [intOf]; omega
    · obtain rfl : k = gs.length := by omega
      have hyes := hid (retOk_end (y := ⟨⟨bs, ls⟩, ps, gs, n⟩) h24'.out hpre)
      go_wp2
      go_ret
      exact ⟨ret_bool hyes.out.symm, hB⟩

theorem yardOk_prog (y : Yard) : yardOk y = (!(decide (y.passes < 0) || decide (1000000 < y.passes)) && (arenaOk y.arena && (pinsOkF y.pins y.passes && retOkF y))) := by
  rw [yardOk_top, yardTop, pinsOkF, retOkF]
  have : inB y.passes 0 1000000 = !(decide (y.passes < 0) || decide (1000000 < y.passes)) := by simp only [inB]; rw [Bool.eq_iff_iff]; simp
  rw [this]
  cases arenaOk y.arena <;> cases !(decide (y.passes < 0) || decide (1000000 < y.passes)) <;> cases inB y.pins.length 1 6 <;> cases allIn y.pins (-1) y.passes 0 <;> cases decide (y.retired.length ≤ 24) <;> simp

set_option maxRecDepth 100000 in set_option maxHeartbeats 2000000 in
theorem impl_YardOk0 (v0 : Value) (bs : List Block) (v1 : Value) (ls : List Int) (v2 : Value) (ps : List Int) (v3 : Value) (gs : List Gone) (n : Int) (w : World) (h0 : Blocks w v0 bs) (h1 : Ints w v1 ls) (h2 : Ints w v2 ps) (h3 : Gones w v3 gs) (hgi : GonesIn gs) :
    Calls Try.prog 22 #[.agg #[v0, v1, v2, v3, .int .i64 n]] w fun e w' => e = .returned (.bool (yardOk ⟨⟨bs, ls⟩, ps, gs, n⟩)) ∧ Below w.heap.size w w' := by
  rw [yardOk_prog]
  obtain ⟨a0, cap0, rfl, hl0, hm0⟩ := h0.form; obtain ⟨a1, cap1, rfl, hl1, hm1⟩ := h1.form; obtain ⟨a2, cap2, rfl, hl2, hm2⟩ := h2.form; obtain ⟨a3, cap3, rfl, hl3, hm3⟩ := h3.form; obtain ⟨W1, hW1⟩ : ∃ X, (w.alloc (.cells #[Value.slice a0 bs.length cap0, Value.slice a1 ls.length cap1, Value.slice a2 ps.length cap2, Value.slice a3 gs.length cap3, .int .i64 n] 30)) = X := ⟨_, rfl⟩; have hB1 : Below w.heap.size w W1 := by rw [← hW1]; exact Below.alloc (Below.refl _ _) (by simp) _
  have hN : w.heap.size + 1 = W1.heap.size := by rw [← hW1]; simp
  have yb : Box W1 w.heap.size [Value.slice a0 bs.length cap0, Value.slice a1 ls.length cap1, Value.slice a2 ps.length cap2, Value.slice a3 gs.length cap3, .int .i64 n] := by rw [← hW1]; exact Box.alloc _ _ _
  have k0 := Ext.cell yb.1 (yb.2 0 (by simp)); have k1 := Ext.cell yb.1 (yb.2 1 (by simp)); have k2 := Ext.cell yb.1 (yb.2 2 (by simp)); have k3 := Ext.cell yb.1 (yb.2 3 (by simp)); have k4 := Ext.cell yb.1 (yb.2 4 (by simp))
  have q0 := Ext.now k0; have q1 := Ext.now k1; have q4 := Ext.now k4
  have h0w := Blocks.below h0 hB1; have h1w := Ints.below h1 hB1; have h2w := Ints.below h2 hB1; have h3w := Gones.below h3 hB1
  go_enter Try.func22, Try.ntmps22
  cases e1 : decide (n < 0)
  case true =>
    go_wp2
    go_ret
    exact ⟨rfl, hB1⟩
  cases e2 : decide (1000000 < n)
  case true =>
    go_wp2
    go_ret
    exact ⟨rfl, hB1⟩
  go_wp2_with fail
  refine (impl_ArenaOk1 _ bs _ ls _ h0w h1w).mono ?_
  rintro e w2 ⟨rfl, b2⟩
  obtain ⟨E2, rfl⟩ := Ext.of b2
  clear hW1 q0 q1 q4
  have hBE := hid (fun E : Ext W1 => hB1.trans (E.h.mono (by omega)))
  cases e3 : arenaOk ⟨bs, ls⟩
  case false =>
    go_wp2
    go_ret
    exact ⟨ret_bool (by simp [e3]), hBE.out E2⟩
  go_wp2_with fail
  refine (impl_pinsOk _ bs _ ls _ ps _ gs n _ (Ext.flat h0w _) (Ext.flat h1w _) (Ext.flat h2w _) (Ext.flat h3w _)).mono ?_
  rintro e w2 ⟨rfl, b3⟩
  obtain ⟨E3, rfl⟩ := Ext.ex E2 b3
  cases e4 : pinsOkF ps n
  case false =>
    go_wp2
    go_ret
    exact ⟨ret_bool (by simp [e4]), hBE.out E3⟩
  go_wp2_with fail
  refine (impl_retiredOk _ bs _ ls _ ps _ gs n _ (Ext.flat h0w _) (Ext.flat h1w _) (Ext.flat h2w _) (Ext.flat h3w _) hgi).mono ?_
  rintro e w2 ⟨rfl, b4⟩
  obtain ⟨E4, rfl⟩ := Ext.ex E3 b4
  go_wp2
  go_ret
  exact ⟨ret_bool (by simp [e3, e4]), hBE.out E4⟩
theorem impl_YardOk (v0 : Value) (bs : List Block) (v1 : Value) (ls : List Int) (v2 : Value) (ps : List Int) (v3 : Value) (gs : List Gone) (n : Int) (w : World) (h0 : Blocks w v0 bs) (_hx0 : bs.length ≤ 1048576) (h1 : Ints w v1 ls) (_hx1 : ls.length ≤ 1048576) (h2 : Ints w v2 ps) (_hx2 : ps.length ≤ 1048576) (h3 : Gones w v3 gs) (_hx3 : gs.length ≤ 1048576) (hgi : GonesIn gs := by assumption) :
    Calls Try.prog 22 #[.agg #[v0, v1, v2, v3, .int .i64 n]] w fun e w' => e = .returned (.bool (yardOk ⟨⟨bs, ls⟩, ps, gs, n⟩)) ∧ Below w.heap.size w w' := impl_YardOk0 v0 bs v1 ls v2 ps v3 gs n w h0 h1 h2 h3 hgi
end Go.Proofs.Ytdnfphpeleakcaa
