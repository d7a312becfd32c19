/- Chapter 2's program: copyArena, livePlace, Live, Get, Spent. -/
import Derived.Test.YtdnfphpeleakcaaF2b
import Derived.Test.YtdnfphpeleakcaaS2b
import Derived.Test.YtdnfphpeleakcaaBox
import Derived.Deep.RegionLaw
namespace Go.Proofs.Ytdnfphpeleakcaa
set_option maxRecDepth 100000
open Go.RowKit Go.Proofs Go.Own
set_option linter.unusedVariables false
set_option linter.unusedSimpArgs false


theorem and7 (h : Int) : bits .and .i64 h 7 = h % 8 := by
  have h1 : (BitVec.ofInt 64 h).toNat = (h % (2 : Int) ^ 64).toNat := by simp [BitVec.toNat_ofInt]
  have h2 : (BitVec.ofInt 64 7).toNat = 2 ^ 3 - 1 := by decide
  show IntKind.i64.wrap ((BitVec.ofInt 64 h &&& BitVec.ofInt 64 7).toNat : Int) = _
  rw [BitVec.toNat_and, h1, h2, Nat.and_two_pow_sub_one_eq_mod, IntKind.wrap_i64]
  omega
theorem impl_handleParts (h : Int) (w : World) (hb : InI h) :
    Calls Try.prog 97 #[.int .i64 h] w fun e w' => e = .returned (.tuple #[.int .i64 (h / 8), .int .i64 (h % 8)]) ∧ w = w' := by
  go_enter Try.func97, Try.ntmps97
  obtain ⟨hlo, hhi⟩ := hb
  go_wp2
  go_ret2
  exact ⟨by simp only [and7]; rfl, rfl⟩

set_option maxRecDepth 100000 in set_option maxHeartbeats 2000000 in
theorem impl_copyArena (v0 : Value) (bs : List Block) (v1 : Value) (ls : List Int) (w : World) (h0 : Blocks w v0 bs) (hx0 : bs.length ≤ 1048576) (h1 : Ints w v1 ls) (hx1 : ls.length ≤ 1048576) :
    Calls Try.prog 38 #[.agg #[v0, v1]] w fun e w' => ∃ u0 u1, e = .returned (.agg #[u0, u1]) ∧ w'.ownsRow w.heap.size 64 5 u0 bs.length (bs.flatMap Block.enc) ∧ w'.ownsRow w.heap.size 3 1 u1 ls.length (ls.flatMap encI) ∧ ((u0.ownBlock = none ∨ u0.ownBlock ≠ u1.ownBlock) ∧ (u1.ownBlock = none ∨ u1.ownBlock ≠ u0.ownBlock)) ∧ Below w.heap.size w w' := by
  obtain ⟨a0, cap0, rfl, hl0, hm0⟩ := h0.form
  obtain ⟨a1, cap1, rfl, hl1, hm1⟩ := h1.form
  obtain ⟨W1, hW1⟩ : ∃ X, (w.alloc (.cells #[Value.slice a0 bs.length cap0, Value.slice a1 ls.length cap1] 27)).alloc (.cells #[Value.slice none 0 0, Value.slice none 0 0] 27) = X := ⟨_, rfl⟩
  have hB1 : Below w.heap.size w W1 := by rw [← hW1]; repeat (first | exact Below.refl _ _ | refine Below.alloc ?_ (by simp; try omega) _)
  have hN : w.heap.size + 2 = W1.heap.size := by rw [← hW1]; simp
  have k0 : W1.cell? ⟨w.heap.size, 0, none⟩ = some (Value.slice a0 bs.length cap0) := by rw [← hW1]; simp [go_sem]
  have k1 : W1.cell? ⟨w.heap.size, 1, none⟩ = some (Value.slice a1 ls.length cap1) := by rw [← hW1]; simp [go_sem]
  have k2 : W1.cell? ⟨w.heap.size + 1, 0, none⟩ = some (Value.slice none 0 0) := by rw [← hW1]; simp [go_sem]
  have k3 : W1.cell? ⟨w.heap.size + 1, 1, none⟩ = some (Value.slice none 0 0) := by rw [← hW1]; simp [go_sem]
  have f2 : W1.frozen? ⟨w.heap.size + 1, 0, none⟩ = false := by rw [← hW1]; simp [go_sem]
  have f3 : W1.frozen? ⟨w.heap.size + 1, 1, none⟩ = false := by rw [← hW1]; simp [go_sem]
  replace h0 := Flat.below h0 hB1
  replace h1 := Flat.below h1 hB1
  obtain ⟨i0, hi, hz0, hz1, hz2⟩ := info_parts infoBlock
  obtain ⟨j0, hj, hy0, hy1, hy2⟩ := info_parts infoInt
  have hone := hid (oneCell_enc oneCell_Block bs)
  have hone2 := hid (oneCell_enc oneCell_I ls)
  go_enter Try.func38, Try.ntmps38
  go_wp2
  clear hW1
  go_region_law (first
    | (refine step_append_flat rfl (.const (.slice none 0 0)) (.tmp 4) 24 rfl W1.heap.size 64 i0 (.agg #[.int .i64 0, .bool false, .int .i64 0, .int .i64 0, .int .i64 0]) 5 40 Try.underlying24 hi hz0 hz1 hz2 rfl (by decide) _ 0 [] rfl (World.ownsRow_nil _ _ _ _) _ bs.length _ rfl (FlatB.flat (FlatB.below h0 (by repeat (first | assumption | exact (Below.refl _ _).drew | exact Below.refl _ _ | refine Below.drew ?_ | refine Below.alloc ?_ (by first | omega | (simp; done) | (simp; omega)) _))) (by first | omega | (simp; done) | (simp; omega) | (have := Below.size ‹Below W1.heap.size W1 _›; omega) | (have := Below.size ‹Below W1.heap.size W1 _›; simp; omega))) hone.out (by unfold maxLen; omega) (by omega) (by first | omega | (simp; done) | (simp; omega) | (have := Below.size ‹Below W1.heap.size W1 _›; omega) | (have := Below.size ‹Below W1.heap.size W1 _›; simp; omega)) ?_; intro v2 w2 o2 g2 hb2'; obtain ⟨p2, m2, c2, rfl⟩ := owns_form3 o2; rw [Nat.zero_add, List.nil_append] at o2; have hb2 : Below W1.heap.size W1 w2 := Below.trans (by repeat (first | assumption | exact (Below.refl _ _).drew | exact Below.refl _ _ | refine Below.drew ?_ | refine Below.alloc ?_ (by first | omega | (simp; done) | (simp; omega)) _)) hb2'; have k02 : w2.cell? ⟨w.heap.size, 0, none⟩ = some (Value.slice a0 bs.length cap0) := (hb2.cell (p := ⟨w.heap.size, 0, none⟩) (by show w.heap.size < _; omega)).trans k0; have k12 : w2.cell? ⟨w.heap.size, 1, none⟩ = some (Value.slice a1 ls.length cap1) := (hb2.cell (p := ⟨w.heap.size, 1, none⟩) (by show w.heap.size < _; omega)).trans k1; have k22 : w2.cell? ⟨w.heap.size + 1, 0, none⟩ = some (Value.slice none 0 0) := (hb2.cell (p := ⟨w.heap.size + 1, 0, none⟩) (by show w.heap.size + 1 < _; omega)).trans k2; have k32 : w2.cell? ⟨w.heap.size + 1, 1, none⟩ = some (Value.slice none 0 0) := (hb2.cell (p := ⟨w.heap.size + 1, 1, none⟩) (by show w.heap.size + 1 < _; omega)).trans k3; have f22 : w2.frozen? ⟨w.heap.size + 1, 0, none⟩ = false := (hb2.frozen (p := ⟨w.heap.size + 1, 0, none⟩) (by show w.heap.size + 1 < _; omega)).trans f2; have f32 : w2.frozen? ⟨w.heap.size + 1, 1, none⟩ = false := (hb2.frozen (p := ⟨w.heap.size + 1, 1, none⟩) (by show w.heap.size + 1 < _; omega)).trans f3)
    | (refine step_append_flat rfl (.const (.slice none 0 0)) (.tmp 7) 25 rfl W1.heap.size 3 j0 (.int .i64 0) 1 8 Try.underlying25 hj hy0 hy1 hy2 rfl (by decide) _ 0 [] rfl (World.ownsRow_nil _ _ _ _) _ ls.length _ rfl (FlatB.flat (FlatB.below h1 (by repeat (first | assumption | exact (Below.refl _ _).drew | exact Below.refl _ _ | refine Below.drew ?_ | refine Below.alloc ?_ (by first | omega | (simp; done) | (simp; omega)) _))) (by first | omega | (simp; done) | (simp; omega) | (have := Below.size ‹Below W1.heap.size W1 _›; omega) | (have := Below.size ‹Below W1.heap.size W1 _›; simp; omega))) hone2.out (by unfold maxLen; omega) (by omega) (by first | omega | (simp; done) | (simp; omega) | (have := Below.size ‹Below W1.heap.size W1 _›; omega) | (have := Below.size ‹Below W1.heap.size W1 _›; simp; omega)) ?_; intro v3 w3 o3 g3 hb3'; obtain ⟨p3, m3, c3, rfl⟩ := owns_form3 o3; rw [Nat.zero_add, List.nil_append] at o3; have hb3 : Below W1.heap.size W1 w3 := Below.trans (by repeat (first | assumption | exact (Below.refl _ _).drew | exact Below.refl _ _ | refine Below.drew ?_ | refine Below.alloc ?_ (by first | omega | (simp; done) | (simp; omega)) _)) hb3'; have k03 : w3.cell? ⟨w.heap.size, 0, none⟩ = some (Value.slice a0 bs.length cap0) := (hb3.cell (p := ⟨w.heap.size, 0, none⟩) (by show w.heap.size < _; omega)).trans k0; have k13 : w3.cell? ⟨w.heap.size, 1, none⟩ = some (Value.slice a1 ls.length cap1) := (hb3.cell (p := ⟨w.heap.size, 1, none⟩) (by show w.heap.size < _; omega)).trans k1; have k23 : w3.cell? ⟨w.heap.size + 1, 0, none⟩ = some (Value.slice none 0 0) := (hb3.cell (p := ⟨w.heap.size + 1, 0, none⟩) (by show w.heap.size + 1 < _; omega)).trans k2; have k33 : w3.cell? ⟨w.heap.size + 1, 1, none⟩ = some (Value.slice none 0 0) := (hb3.cell (p := ⟨w.heap.size + 1, 1, none⟩) (by show w.heap.size + 1 < _; omega)).trans k3; have f23 : w3.frozen? ⟨w.heap.size + 1, 0, none⟩ = false := (hb3.frozen (p := ⟨w.heap.size + 1, 0, none⟩) (by show w.heap.size + 1 < _; omega)).trans f2; have f33 : w3.frozen? ⟨w.heap.size + 1, 1, none⟩ = false := (hb3.frozen (p := ⟨w.heap.size + 1, 1, none⟩) (by show w.heap.size + 1 < _; omega)).trans f3))
  all_goals go_wp2
  all_goals refine bodyPost_ret (v := .agg #[.slice p2 m2 c2, .slice p3 m3 c3]) ?_ rfl ?_
  all_goals first
    | (simp [results, Try.results38, go_sem, k23, k33]; done)
    | (simp [results, Try.results38, go_sem, k22, k32]; done)
    | skip
  all_goals first
    | exact ⟨_, _, rfl, fin_box2 (by omega) (by omega) (by omega) hB1 hb3 (World.ownsRow.kept o2 g3 (apart_none _ rfl)) o3 (by decide) _ _⟩
    | exact ⟨_, _, rfl, fin_box2 (by omega) (by omega) (by omega) hB1 hb2 o2 (World.ownsRow.kept o3 g2 (apart_none _ rfl)) (by decide) _ _⟩

/-- Where a handle's block is; 0 where it is not live. -/
def lpF (a : Arena) (h : Int) : Int := if liveF a h then h / 8 else 0
theorem lpF_live {a : Arena} {h : Int} (hl : liveF a h = true) : lpF a h = h / 8 := by simp [lpF, hl]

set_option maxRecDepth 100000 in set_option maxHeartbeats 2000000 in
theorem impl_livePlace (v0 : Value) (bs : List Block) (v1 : Value) (ls : List Int) (h : Int) (w : World) (h0 : Blocks w v0 bs) (h1 : Ints w v1 ls) (hb : InI h := by assumption) :
    Calls Try.prog 80 #[.agg #[v0, v1], .int .i64 h] w fun e w' => e = .returned (.tuple #[.int .i64 (lpF ⟨bs, ls⟩ h), .bool (liveF ⟨bs, ls⟩ h)]) ∧ Below w.heap.size w w' := by
  obtain ⟨a0, cap0, rfl, hl0, hm0⟩ := h0.form; obtain ⟨a1, cap1, rfl, hl1, hm1⟩ := h1.form; obtain ⟨W1, hW1⟩ : ∃ X, (w.alloc (.cells #[Value.slice a0 bs.length cap0, Value.slice a1 ls.length cap1] 27)) = X := ⟨_, rfl⟩; have hB1 : Below w.heap.size w W1 := by rw [← hW1]; exact Below.alloc (Below.refl _ _) (by simp) _
  have hN : w.heap.size + 1 = W1.heap.size := by rw [← hW1]; simp
  have k0 : W1.cell? ⟨w.heap.size, 0, none⟩ = some (Value.slice a0 bs.length cap0) := by rw [← hW1]; simp [go_sem]
  have k1 : W1.cell? ⟨w.heap.size, 1, none⟩ = some (Value.slice a1 ls.length cap1) := by rw [← hW1]; simp [go_sem]
  have h0w := Blocks.below h0 hB1; have h1w := Ints.below h1 hB1
  cases hok : arenaOk ⟨bs, ls⟩
  case false =>
    have hno := hid (show liveF ⟨bs, ls⟩ h = false by simp [liveF, hok])
    have hno2 := hid (show lpF ⟨bs, ls⟩ h = 0 by simp [lpF, hno.out])
    go_enter Try.func80, Try.ntmps80
    go_wp2_with (first | (go_at_call 97; refine (impl_handleParts _ _ hb).mono ?_; rintro e w' ⟨rfl, rfl⟩) | (go_at_call 39; refine (impl_ArenaOk1 _ bs _ ls _ h0w h1w).mono ?_; rintro e w2 ⟨rfl, b2⟩))
    go_ret2
    rw [hno.out, hno2.out]
    exact ⟨rfl, hB1.trans (b2.mono (by omega))⟩
  obtain ⟨hlen1, hlen24⟩ := arenaOk_len hok
  have hcase : h / 8 < 0 ∨ (¬ h / 8 < 0 ∧ (bs.length : Int) ≤ h / 8) ∨ (∃ q : Nat, h = q ∧ q / 8 < bs.length) := by
    by_cases e1 : h / 8 < 0
    · exact .inl e1
    · by_cases e2 : (bs.length : Int) ≤ h / 8
      · exact .inr (.inl ⟨e1, e2⟩)
      · exact .inr (.inr ⟨h.toNat, by omega, by omega⟩)
  rcases hcase with e1 | ⟨e1, e2⟩ | ⟨q, rfl, hqn⟩
  · have hno := hid (show liveF ⟨bs, ls⟩ h = false by
      have : inB h 0 (8 * bs.length - 1) = false := by simp [inB]; omega
      simp only [liveF, this]; simp)
    have hno2 := hid (show lpF ⟨bs, ls⟩ h = 0 by simp [lpF, hno.out])
    go_enter Try.func80, Try.ntmps80
    go_wp2_with (first | (go_at_call 97; refine (impl_handleParts _ _ hb).mono ?_; rintro e w' ⟨rfl, rfl⟩) | (go_at_call 39; refine (impl_ArenaOk1 _ bs _ ls _ h0w h1w).mono ?_; rintro e w2 ⟨rfl, b2⟩))
    go_ret2
    rw [hno.out, hno2.out]
    exact ⟨rfl, hB1.trans (b2.mono (by omega))⟩
  · have hno := hid (show liveF ⟨bs, ls⟩ h = false by
      have : inB h 0 (8 * bs.length - 1) = false := by simp [inB]; omega
      simp only [liveF, this]; simp)
    have hno2 := hid (show lpF ⟨bs, ls⟩ h = 0 by simp [lpF, hno.out])
    go_enter Try.func80, Try.ntmps80
    go_wp2_with (first | (go_at_call 97; refine (impl_handleParts _ _ hb).mono ?_; rintro e w' ⟨rfl, rfl⟩))
    refine (impl_ArenaOk1 _ bs _ ls _ h0w h1w).mono ?_
    rintro e w2 ⟨rfl, b2⟩
    have q0 := (b2.cell (p := ⟨w.heap.size, 0, none⟩) (show w.heap.size < _ by omega)).trans k0
    go_wp2
    go_ret2
    rw [hno.out, hno2.out]
    exact ⟨rfl, hB1.trans (b2.mono (by omega))⟩
  obtain ⟨⟨g, fr, x0, x1, x2⟩, ho⟩ : ∃ o, Hid (bs[q / 8] = o) := ⟨_, hid rfl⟩
  have hgd := hid (show bs.getD (q / 8) zeroB = ⟨g, fr, x0, x1, x2⟩ by rw [List.getD, List.getElem?_eq_getElem hqn]; exact ho.out)
  have hyes := hid (show liveF ⟨bs, ls⟩ q = (!fr && decide (g = (q : Int) % 8)) by
    have e : ((q : Int) / 8).toNat = q / 8 := by omega
    have hin : inB q 0 (8 * bs.length - 1) = true := by simp [inB]; omega
    simp only [liveF, hok, hin, e, hgd.out]
    simp)
  have h1' : ¬ ((q : Int) / 8 < 0) := by omega
  have h2' : ¬ ((bs.length : Int) ≤ (q : Int) / 8) := by omega
  go_enter Try.func80, Try.ntmps80
  go_wp2_with (first | (go_at_call 97; refine (impl_handleParts _ _ hb).mono ?_; rintro e w' ⟨rfl, rfl⟩))
  refine (impl_ArenaOk1 _ bs _ ls _ h0w h1w).mono ?_
  rintro e w2 ⟨rfl, b2⟩
  have q0 := (b2.cell (p := ⟨w.heap.size, 0, none⟩) (show w.heap.size < _ by omega)).trans k0
  obtain ⟨bb, off, rfl, hbs, c0, c1, c2, c3, c4⟩ := Blocks.at (Blocks.below h0w b2) (q / 8) hqn _ ho
  dsimp only at c0 c1 c2 c3 c4
  have hB2 : Below w.heap.size w w2 := hB1.trans (b2.mono (by omega))
  have hz2 := b2.size
  cases fr
  case true =>
    have hno2 := hid (show lpF ⟨bs, ls⟩ q = 0 by simp [lpF, hyes.out])
    go_wp2
    go_ret2
    rw [hyes.out, hno2.out]
    exact ⟨rfl, hB2.alloc (by omega) _⟩
  case false =>
    cases hg : (g != (q : Int) % 8)
    case true =>
      have hg' : decide (g = (q : Int) % 8) = false := by simpa using hg
      have hno2 := hid (show lpF ⟨bs, ls⟩ q = 0 by simp [lpF, hyes.out, hg'])
      have hg2 := hid hg'
      clear hg'
      go_wp2
      go_ret2
      rw [hyes.out, hno2.out, hg2.out]
      exact ⟨rfl, hB2.alloc (by omega) _⟩
    case false =>
      have hg' : decide (g = (q : Int) % 8) = true := by simpa using hg
      have hno2 := hid (show lpF ⟨bs, ls⟩ q = (q : Int) / 8 by simp [lpF, hyes.out, hg'])
      have hg2 := hid hg'
      clear hg'
      go_wp2
      go_ret2
      rw [hyes.out, hno2.out, hg2.out]
      exact ⟨rfl, hB2.alloc (by omega) _⟩

theorem impl_Live (v0 : Value) (bs : List Block) (v1 : Value) (ls : List Int) (h : Int) (w : World) (h0 : Blocks w v0 bs) (_hx0 : bs.length ≤ 1048576) (h1 : Ints w v1 ls) (_hx1 : ls.length ≤ 1048576) (hb : InI h := by assumption) :
    Calls Try.prog 42 #[.agg #[v0, v1], .int .i64 h] w fun e w' => e = .returned (.bool (liveF ⟨bs, ls⟩ h)) ∧ Below w.heap.size w w' := by
  obtain ⟨a0, cap0, rfl, hl0, hm0⟩ := h0.form; obtain ⟨a1, cap1, rfl, hl1, hm1⟩ := h1.form; obtain ⟨W1, hW1⟩ : ∃ X, (w.alloc (.cells #[Value.slice a0 bs.length cap0, Value.slice a1 ls.length cap1] 27)) = X := ⟨_, rfl⟩; have hB1 : Below w.heap.size w W1 := by rw [← hW1]; exact Below.alloc (Below.refl _ _) (by simp) _
  have hN : w.heap.size + 1 = W1.heap.size := by rw [← hW1]; simp
  have k0 : W1.cell? ⟨w.heap.size, 0, none⟩ = some (Value.slice a0 bs.length cap0) := by rw [← hW1]; simp [go_sem]
  have k1 : W1.cell? ⟨w.heap.size, 1, none⟩ = some (Value.slice a1 ls.length cap1) := by rw [← hW1]; simp [go_sem]
  have h0w := Blocks.below h0 hB1; have h1w := Ints.below h1 hB1
  go_enter Try.func42, Try.ntmps42
  go_wp2_with (go_at_call 80; refine (impl_livePlace _ bs _ ls h _ h0w h1w).mono ?_; rintro e w2 ⟨rfl, b2⟩)
  go_ret
  exact ⟨rfl, hB1.trans (b2.mono (by omega))⟩


end Go.Proofs.Ytdnfphpeleakcaa
