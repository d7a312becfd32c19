/- FnRetired, walked. -/
import Derived.Test.YtdnfphpeleakcaaOr3
import Derived.Test.YtdnfphpeleakcaaF3d
import Derived.Test.YtdnfphpeleakcaaI2take
import Derived.Test.YtdnfphpeleakcaaI3Retire
import Derived.Test.YtdnfphpeleakcaaI3c
import Derived.Test.YtdnfphpeleakcaaI3NewYard
import Derived.Test.YtdnfphpeleakcaaI3Pass
/- A slice of bytes that is read; the laws' own big and at. -/
namespace Go.Own
open Go.RowKit Go.Proofs Go.Own
open Go
set_option linter.unusedVariables false
set_option linter.unusedSimpArgs false
def encY (x : Int) : List Value := [.int .u8 x]
def Bytes (w : World) (v : Value) (xs : List Int) : Prop := Flat w v xs.length 1 (xs.flatMap encY)
def BytesIn (xs : List Int) : Prop := ∀ x ∈ xs, 0 ≤ x ∧ x ≤ 255
theorem Bytes.below {w w' : World} {v : Value} {xs : List Int} (h : Bytes w v xs) (hb : Below w.heap.size w w') : Bytes w' v xs := Flat.below h hb
theorem Bytes.open {w : World} {v : Value} {xs : List Int} (h : Bytes w v xs) : ∃ a cap, v = .slice a xs.length cap ∧ xs.length ≤ cap ∧ cap ≤ 9223372036854775807 ∧
    ∀ k, (h : k < xs.length) → ∃ b off, a = some ⟨b, off, none⟩ ∧ b < w.heap.size ∧ w.cell? ⟨b, off + k, none⟩ = some (.int .u8 xs[k]) := by
  obtain ⟨a, cap, e, h1, h2, h3⟩ := flat_elem (f := encY) (sz := 1) (fun _ => rfl) h
  refine ⟨a, cap, e, h1, h2, fun k hk => ?_⟩
  obtain ⟨b, off, ha, hs, hc⟩ := h3 k hk
  have := hc 0 (by omega)
  rw [Nat.mul_one, Nat.add_zero] at this
  exact ⟨b, off, ha, hs, this⟩
end Go.Own
namespace Go.Proofs.Ytdnfphpeleakcaa
open Go.RowKit Go.Proofs Go.Own
open Go
set_option linter.unusedVariables false
set_option linter.unusedSimpArgs false
theorem law_big (v : Value) (xs : List Int) (w : World) (h : Bytes w v xs) :
    Calls Try.prog 12 #[v] w fun e w' => e = .returned (.bool (decide (1048576 < (xs.length : Int)))) ∧ w = w' := by
  obtain ⟨a, cap, rfl, hl, hm, _⟩ := h.open
  go_enter Try.func12, Try.ntmps12
  go_wp2
  go_ret
  exact ⟨rfl, rfl⟩
theorem law_at (v : Value) (xs : List Int) (i : Nat) (w : World) (h : Bytes w v xs) (hin : BytesIn xs) (hi : i ≤ 1000) (hx : xs.length ≤ 1048576) :
    Calls Try.prog 14 #[v, .int .i64 (i : Int)] w fun e w' => ∃ x : Nat, x ≤ 255 ∧ e = .returned (.int .i64 (x : Int)) ∧ w = w' := by
  obtain ⟨a, cap, rfl, hl, hm, ho⟩ := h.open
  by_cases hlt : i < xs.length
  · obtain ⟨b, off, rfl, hb, hc⟩ := ho i hlt
    obtain ⟨x, hx⟩ : ∃ x, Hid (xs[i] = x) := ⟨_, hid rfl⟩
    have hr := hin xs[i] (List.getElem_mem hlt)
    rw [hx.out] at hc hr
    obtain ⟨k, rfl⟩ : ∃ k : Nat, x = k := ⟨x.toNat, by omega⟩
    have hw : IntKind.i64.wrap (k : Int) = k := by rw [IntKind.wrap_i64]; omega
    have hlt' : (i : Int) < xs.length := by omega
    clear ho
    go_enter Try.func14, Try.ntmps14
    go_wp2
    go_ret
    exact ⟨k, by omega, rfl, rfl⟩
  · have hlt' : ¬ (i : Int) < xs.length := by omega
    obtain ⟨m, hm⟩ : ∃ m : Nat, Hid (xs.length = m) := ⟨_, hid rfl⟩
    have hw1 : IntKind.i64.wrap ((i : Int) * 7) = (i : Int) * 7 := by rw [IntKind.wrap_i64]; omega
    have hw2 : IntKind.i64.wrap ((i : Int) * 7 + xs.length) = (i : Int) * 7 + xs.length := by rw [IntKind.wrap_i64]; omega
    clear ho
    go_enter Try.func14, Try.ntmps14
    go_wp2
    go_ret
    exact ⟨(i * 7 + xs.length) % 256, by omega, ret_int (by omega), rfl⟩
theorem law_at0 (v : Value) (xs : List Int) (w : World) (h : Bytes w v xs) (hin : BytesIn xs) (hx : xs.length ≤ 1048576) :
    Calls Try.prog 14 #[v, .int .i64 0] w fun e w' => ∃ x : Nat, x ≤ 255 ∧ e = .returned (.int .i64 (x : Int)) ∧ w = w' := law_at v xs 0 w h hin (by omega) hx
theorem law_at1 (v : Value) (xs : List Int) (w : World) (h : Bytes w v xs) (hin : BytesIn xs) (hx : xs.length ≤ 1048576) :
    Calls Try.prog 14 #[v, .int .i64 1] w fun e w' => ∃ x : Nat, x ≤ 255 ∧ e = .returned (.int .i64 (x : Int)) ∧ w = w' := law_at v xs 1 w h hin (by omega) hx
end Go.Proofs.Ytdnfphpeleakcaa
/- Chapter 3: what FnRetired's yards are, for each number of blocks and of threads that it draws. -/
namespace Go.Proofs.Ytdnfphpeleakcaa
open Go.RowKit Go.Proofs Go.Own
set_option linter.unusedVariables false
set_option linter.unusedSimpArgs false
set_option maxRecDepth 100000

structure RetiredFacts (b t : Int) (bs : List Block) (ls ps : List Int) (h : Int) (bs1 : List Block) (ls1 : List Int) (bs2 : List Block) (ls2 : List Int) : Prop where
  new : newYardF b t = (⟨⟨bs, ls⟩, ps, [], 0⟩, true)
  took : takeF ⟨bs, ls⟩ = (⟨bs1, ls1⟩, h, true)
  one : retireF ⟨⟨bs1, ls1⟩, ps, [], 0⟩ h = (⟨⟨bs1, ls1⟩, ps, [⟨h, 0⟩], 0⟩, 0)
  two : retireF ⟨⟨bs1, ls1⟩, ps, [⟨h, 0⟩], 0⟩ h = (⟨⟨bs1, ls1⟩, ps, [⟨h, 0⟩], 0⟩, 4)
  cls : classF ⟨⟨bs1, ls1⟩, ps, [⟨h, 0⟩], 0⟩ (h / 8) = 2
  bad : retireF ⟨⟨bs1, ls1⟩, ps, [⟨h, 0⟩], 0⟩ (h + 1) = (⟨⟨bs1, ls1⟩, ps, [⟨h, 0⟩], 0⟩, 4)
  pass : passF ⟨⟨bs1, ls1⟩, ps, [⟨h, 0⟩], 0⟩ = (⟨⟨bs2, ls2⟩, ps, [], 1⟩, 1, 0)
  free : classF ⟨⟨bs2, ls2⟩, ps, [], 1⟩ (h / 8) = 0
  used : classF ⟨⟨bs1, ls1⟩, ps, [], 0⟩ (h / 8) = 3
  h0 : 0 ≤ h
  h1 : h ≤ 1000
  l0 : bs.length ≤ 24 ∧ ls.length ≤ 24 ∧ ps.length ≤ 24 ∧ bs1.length ≤ 24 ∧ ls1.length ≤ 24 ∧ bs2.length ≤ 24 ∧ ls2.length ≤ 24
theorem retired_facts (b t : Int) (hb : b = 2 ∨ b = 3 ∨ b = 4 ∨ b = 5) (ht : t = 1 ∨ t = 2 ∨ t = 3) : ∃ bs ls ps h bs1 ls1 bs2 ls2, RetiredFacts b t bs ls ps h bs1 ls1 bs2 ls2 := by
  rcases hb with rfl | rfl | rfl | rfl <;> rcases ht with rfl | rfl | rfl <;>
    exact ⟨_, _, _, _, _, _, _, _, rfl, rfl, by rfl, by rfl, by rfl, by rfl, by rfl, by rfl, by rfl, by decide, by decide, by decide⟩
end Go.Proofs.Ytdnfphpeleakcaa
namespace Go.Proofs.Ytdnfphpeleakcaa
open Go.RowKit Go.Proofs Go.Own
open Go Go.BigFrame
set_option linter.unusedVariables false
set_option linter.unusedSimpArgs false

theorem impl_ClassIs (v0 : Value) (bs : List Block) (v1 : Value) (ls : List Int) (v2 : Value) (ps : List Int) (v3 : Value) (gs : List Gone) (n : Int) (p : Int) (w : World) (c : Int) (h0 : Blocks w v0 bs) (h1 : Ints w v1 ls) (h2 : Ints w v2 ps) (h3 : Gones w v3 gs) (hgi : GonesIn gs) (hc : classF ⟨⟨bs, ls⟩, ps, gs, n⟩ p = c) :
    Calls Try.prog 17 #[.agg #[v0, v1, v2, v3, .int .i64 n], .int .i64 p] w fun e w' => e = .returned (.int .i64 c) ∧ Below w.heap.size w w' := by
  rw [← hc]; exact impl_ClassOf0 v0 bs v1 ls v2 ps v3 gs n p w h0 h1 h2 h3 hgi

set_option maxRecDepth 100000 in set_option maxHeartbeats 2000000 in
theorem law_Retired (v : Value) (xs : List Int) (w : World) (h : Bytes w v xs) (hin : BytesIn xs) :
    Calls Try.prog 3 #[v] w fun e w' => e = .returned (.bool true) ∧ Below w.heap.size w w' := by
  cases hbig : decide (1048576 < (xs.length : Int))
  case true =>
    go_enter Try.func3, Try.ntmps3
    go_wp2_with (first | (go_at_call 12; refine (law_big v xs _ h).mono ?_; rintro e w' ⟨rfl, rfl⟩; rw [hbig]))
    go_ret
    exact ⟨rfl, Below.refl _ _⟩
  have hxl : xs.length ≤ 1048576 := by have := of_decide_eq_false hbig; omega
  go_enter Try.func3, Try.ntmps3
  go_wp2_with fail
  refine (law_big v xs _ h).mono ?_; rintro e w' ⟨rfl, rfl⟩; rw [hbig]
  go_wp2_with fail
  refine (law_at0 v xs _ h hin hxl).mono ?_; rintro e w' ⟨x0, hx0, rfl, rfl⟩
  go_wp2_with fail
  refine (law_at1 v xs _ h hin hxl).mono ?_; rintro e w' ⟨x1, hx1, rfl, rfl⟩
  go_wp2_with fail
  obtain ⟨bs, ls, ps, hh, bs1, ls1, bs2, ls2, FA⟩ := retired_facts (2 + (x0 : Int) % 4) (1 + (x1 : Int) % 3) (by omega) (by omega)
  have hh0 := FA.h0
  obtain ⟨kh, rfl⟩ : ∃ q : Nat, hh = q := ⟨hh.toNat, by omega⟩
  have hh1 : kh ≤ 1000 := by have := FA.h1; omega
  have hl := hid FA.l0
  have hI : InI (kh : Int) := by unfold InI; omega
  have hI1 : InI ((kh : Int) + 1) := by unfold InI; omega
  have hw1 : IntKind.i64.wrap ((kh : Int) + 1) = (kh : Int) + 1 := by rw [IntKind.wrap_i64]; omega
  have gi0 : GonesIn [] := by intro g hg; cases hg
  have gi1 : GonesIn [⟨(kh : Int), 0⟩] := by intro g hg; rcases List.mem_singleton.1 hg with rfl; exact hI
  have hbI : InI (2 + (x0 : Int) % 4) := by unfold InI; omega
  replace FA := hid FA
  clear hh0 h hin hbig
  have tt_1 : Below w.heap.size w w := Below.refl _ _
  refine (impl_NewYard _ _ _ hbI).mono ?_
  rintro e w1 hp
  rw [FA.out.new] at hp
  obtain ⟨u0, u1, u2, u3, rfl, o0, -, o1, -, o2, -, o3, -, -, -, -, -, -, -, b1⟩ := hp
  dsimp only at o0 o1 o2 o3
  clear hbI
  obtain ⟨p0, m0, c0, rfl⟩ := owns_form3 o0
  have lt0 := hid (World.ownsRow.lt o0)
  obtain ⟨p1, m1, c1, rfl⟩ := owns_form3 o1
  have lt1 := hid (World.ownsRow.lt o1)
  obtain ⟨p2, m2, c2, rfl⟩ := owns_form3 o2
  have lt2 := hid (World.ownsRow.lt o2)
  obtain ⟨p3, m3, c3, rfl⟩ := owns_form3 o3
  have lt3 := hid (World.ownsRow.lt o3)
  have zz_2 := Below.size b1
  have tt_3 : Below w.heap.size w w1 := Below.trans tt_1 (Below.mono b1 (Below.size tt_1))
  obtain ⟨X_4, hX_5⟩ : ∃ X, w1.alloc (.cells #[Value.slice p0 m0 c0, Value.slice p1 m1 c1, Value.slice p2 m2 c2, Value.slice p3 m3 c3, Value.int .i64 0] 30) = X := ⟨_, rfl⟩
  have bX_6 : Below w1.heap.size w1 X_4 := by rw [← hX_5]; exact (Below.refl _ _).alloc (Nat.le_refl _) _
  have zs_7 : w1.heap.size + 1 ≤ X_4.heap.size := by rw [← hX_5]; simp
  have zz_8 := Below.size bX_6
  have tt_9 : Below w.heap.size w X_4 := Below.trans tt_3 (Below.mono bX_6 (Below.size tt_3))
  replace o0 := owns_below o0 bX_6
  replace o1 := owns_below o1 bX_6
  replace o2 := owns_below o2 bX_6
  replace o3 := owns_below o3 bX_6
  have bx_10 : BoxF X_4 w1.heap.size [Value.slice p0 m0 c0, Value.slice p1 m1 c1, Value.slice p2 m2 c2, Value.slice p3 m3 c3, Value.int .i64 0] := by rw [← hX_5]; exact BoxF.alloc _ _ _
  have HX_11 := hid hX_5
  clear hX_5
  go_wp2_with fail
  rw [HX_11.out]
  clear HX_11
  obtain ⟨l0, l1, l2, l3, l4, l5, l6⟩ := hl.out
  refine (impl_Take _ bs _ ls _ (Flat.of_owns o0) (by omega) (Flat.of_owns o1) (by omega)).mono ?_
  rintro e w2 hp
  rw [FA.out.took] at hp
  obtain ⟨t0, t1, rfl, r0, -, r1, -, -, b2⟩ := hp
  dsimp only at r0 r1
  obtain ⟨p4, m4, c4, rfl⟩ := owns_form3 r0
  obtain ⟨p5, m5, c5, rfl⟩ := OwnsAt.form3 r1
  have lt4 := hid (World.ownsRow.lt r0)
  have lt5 := hid (OwnsAt.lt r1)
  have zz_12 := Below.size b2
  have tt_13 : Below w.heap.size w w2 := Below.trans tt_9 (Below.mono b2 (Below.size tt_9))
  replace bx_10 := BoxF.below bx_10 b2
  replace o2 := owns_below o2 b2
  replace o3 := owns_below o3 b2
  obtain ⟨X_14, hX_15⟩ : ∃ X, w2.alloc (.cells #[Value.slice p4 m4 c4, Value.slice p5 m5 c5] 27) = X := ⟨_, rfl⟩
  have bX_16 : Below w2.heap.size w2 X_14 := by rw [← hX_15]; exact (Below.refl _ _).alloc (Nat.le_refl _) _
  have zs_17 : w2.heap.size + 1 ≤ X_14.heap.size := by rw [← hX_15]; simp
  have zz_18 := Below.size bX_16
  have tt_19 : Below w.heap.size w X_14 := Below.trans tt_13 (Below.mono bX_16 (Below.size tt_13))
  replace bx_10 := BoxF.below bx_10 bX_16
  replace o2 := owns_below o2 bX_16
  replace o3 := owns_below o3 bX_16
  replace r0 := owns_below r0 bX_16
  replace r1 := OwnsAt.below r1 bX_16
  have bx_20 : BoxF X_14 w2.heap.size [Value.slice p4 m4 c4, Value.slice p5 m5 c5] := by rw [← hX_15]; exact BoxF.alloc _ _ _
  have k_21 : X_14.cell? ⟨w1.heap.size, 0, none⟩ = some (Value.slice p0 m0 c0) := bx_10.1.2 0 (by simp)
  have k_22 : X_14.frozen? ⟨w1.heap.size, 0, none⟩ = false := bx_10.2 0 (by simp)
  have k_23 : X_14.cell? ⟨w1.heap.size, 1, none⟩ = some (Value.slice p1 m1 c1) := bx_10.1.2 1 (by simp)
  have k_24 : X_14.frozen? ⟨w1.heap.size, 1, none⟩ = false := bx_10.2 1 (by simp)
  have k_25 : X_14.cell? ⟨w1.heap.size, 2, none⟩ = some (Value.slice p2 m2 c2) := bx_10.1.2 2 (by simp)
  have k_26 : X_14.frozen? ⟨w1.heap.size, 2, none⟩ = false := bx_10.2 2 (by simp)
  have k_27 : X_14.cell? ⟨w1.heap.size, 3, none⟩ = some (Value.slice p3 m3 c3) := bx_10.1.2 3 (by simp)
  have k_28 : X_14.frozen? ⟨w1.heap.size, 3, none⟩ = false := bx_10.2 3 (by simp)
  have k_29 : X_14.cell? ⟨w1.heap.size, 4, none⟩ = some (Value.int .i64 0) := bx_10.1.2 4 (by simp)
  have k_30 : X_14.frozen? ⟨w1.heap.size, 4, none⟩ = false := bx_10.2 4 (by simp)
  rw [← hX_15] at k_21 k_22 k_23 k_24 k_25 k_26 k_27 k_28 k_29 k_30
  have HXa := hid hX_15
  clear hX_15
  go_wp2_with fail
  rw [HXa.out]
  clear k_21 k_22 k_23 k_24 k_25 k_26 k_27 k_28 k_29 k_30
  obtain ⟨X_31, hX_32⟩ : ∃ X, X_14.setCell ⟨w1.heap.size, 0, none⟩ (Value.slice p4 m4 c4) = X := ⟨_, rfl⟩
  have gr_33 : X_14.grownBy X_31 (some (w1.heap.size)) := by rw [← hX_32]; exact grownBy_setCell _ _ _
  have zz_34 : X_14.heap.size ≤ X_31.heap.size := by rw [← hX_32]; simp [World.setCell]
  have tt_35 : Below w.heap.size w X_31 := by rw [← hX_32]; exact Below.setCell tt_19 (by show w.heap.size ≤ w1.heap.size; omega) _
  replace o2 := World.ownsRow.kept o2 gr_33 (apart_blk lt2 (by omega))
  replace o3 := World.ownsRow.kept o3 gr_33 (apart_blk lt3 (by omega))
  replace r0 := World.ownsRow.kept r0 gr_33 (apart_blk lt4 (by omega))
  replace r1 := OwnsAt.kept r1 gr_33 (apart_blk lt5 (by omega))
  replace bx_10 : BoxF X_31 w1.heap.size [Value.slice p4 m4 c4, Value.slice p1 m1 c1, Value.slice p2 m2 c2, Value.slice p3 m3 c3, Value.int .i64 0] := by rw [← hX_32]; exact BoxF.set bx_10 0 (by simp) _
  replace bx_20 : BoxF X_31 (w2.heap.size) [Value.slice p4 m4 c4, Value.slice p5 m5 c5] := by rw [← hX_32]; exact BoxF.other bx_20 _ _ (by show ¬ w1.heap.size = w2.heap.size; omega)
  rw [hX_32]
  clear hX_32
  obtain ⟨X_36, hX_37⟩ : ∃ X, X_31.setCell ⟨w1.heap.size, 1, none⟩ (Value.slice p5 m5 c5) = X := ⟨_, rfl⟩
  have gr_38 : X_31.grownBy X_36 (some (w1.heap.size)) := by rw [← hX_37]; exact grownBy_setCell _ _ _
  have zz_39 : X_31.heap.size ≤ X_36.heap.size := by rw [← hX_37]; simp [World.setCell]
  have tt_40 : Below w.heap.size w X_36 := by rw [← hX_37]; exact Below.setCell tt_35 (by show w.heap.size ≤ w1.heap.size; omega) _
  replace o2 := World.ownsRow.kept o2 gr_38 (apart_blk lt2 (by omega))
  replace o3 := World.ownsRow.kept o3 gr_38 (apart_blk lt3 (by omega))
  replace r0 := World.ownsRow.kept r0 gr_38 (apart_blk lt4 (by omega))
  replace r1 := OwnsAt.kept r1 gr_38 (apart_blk lt5 (by omega))
  replace bx_10 : BoxF X_36 w1.heap.size [Value.slice p4 m4 c4, Value.slice p5 m5 c5, Value.slice p2 m2 c2, Value.slice p3 m3 c3, Value.int .i64 0] := by rw [← hX_37]; exact BoxF.set bx_10 1 (by simp) _
  replace bx_20 : BoxF X_36 (w2.heap.size) [Value.slice p4 m4 c4, Value.slice p5 m5 c5] := by rw [← hX_37]; exact BoxF.other bx_20 _ _ (by show ¬ w1.heap.size = w2.heap.size; omega)
  rw [hX_37]
  clear hX_37
  have q0 : Blocks X_36 _ bs1 := Flat.of_owns r0
  have q1 : Ints X_36 _ ls1 := Flat.of_at r1
  have q2 : Ints X_36 _ ps := Flat.of_owns o2
  have q3 : Gones X_36 _ [] := Flat.of_owns o3
  clear r0 r1 o2 o3 o0 o1
  refine (impl_Retire _ bs1 _ ls1 _ ps _ [] _ (kh : Int) _ q0 (by omega) q1 (by omega) q2 (by omega) q3 (by simp) gi0 hI).mono ?_
  rintro e w3 hp
  rw [FA.out.one] at hp
  obtain ⟨s0, s1, s2, s3, rfl, sz0, -, sz1, -, sz2, -, sz3, -, -, -, -, -, -, -, sb⟩ := hp
  dsimp only at sz0 sz1 sz2 sz3
  obtain ⟨sp0, sm0, sc0, rfl⟩ := owns_form3 sz0
  obtain ⟨sp1, sm1, sc1, rfl⟩ := owns_form3 sz1
  obtain ⟨sp2, sm2, sc2, rfl⟩ := owns_form3 sz2
  obtain ⟨sp3, sc3, rfl, -, -⟩ := owns_form sz3
  have zz_41 := Below.size sb
  have tt_42 : Below w.heap.size w w3 := Below.trans tt_40 (Below.mono sb (Below.size tt_40))
  replace bx_10 := BoxF.below bx_10 sb
  replace bx_20 := BoxF.below bx_20 sb
  replace q0 := Flat.below q0 sb
  replace q1 := Flat.below q1 sb
  replace q2 := Flat.below q2 sb
  replace q3 := Flat.below q3 sb
  have sq0 : Blocks w3 _ bs1 := Flat.of_owns sz0
  have sq1 : Ints w3 _ ls1 := Flat.of_owns sz1
  have sq2 : Ints w3 _ ps := Flat.of_owns sz2
  have sq3 : Gones w3 _ [⟨(kh : Int), 0⟩] := Flat.of_owns sz3
  clear sz0 sz1 sz2 sz3
  obtain ⟨X_43, hX_44⟩ : ∃ X, w3.alloc (.cells #[Value.slice sp0 sm0 sc0, Value.slice sp1 sm1 sc1, Value.slice sp2 sm2 sc2, Value.slice sp3 1 sc3, Value.int .i64 0] 30) = X := ⟨_, rfl⟩
  have bX_45 : Below w3.heap.size w3 X_43 := by rw [← hX_44]; exact (Below.refl _ _).alloc (Nat.le_refl _) _
  have zs_46 : w3.heap.size + 1 ≤ X_43.heap.size := by rw [← hX_44]; simp
  have zz_47 := Below.size bX_45
  have tt_48 : Below w.heap.size w X_43 := Below.trans tt_42 (Below.mono bX_45 (Below.size tt_42))
  replace bx_10 := BoxF.below bx_10 bX_45
  replace bx_20 := BoxF.below bx_20 bX_45
  replace q0 := Flat.below q0 bX_45
  replace q1 := Flat.below q1 bX_45
  replace q2 := Flat.below q2 bX_45
  replace q3 := Flat.below q3 bX_45
  replace sq0 := Flat.below sq0 bX_45
  replace sq1 := Flat.below sq1 bX_45
  replace sq2 := Flat.below sq2 bX_45
  replace sq3 := Flat.below sq3 bX_45
  have bx_49 : BoxF X_43 w3.heap.size [Value.slice sp0 sm0 sc0, Value.slice sp1 sm1 sc1, Value.slice sp2 sm2 sc2, Value.slice sp3 1 sc3, Value.int .i64 0] := by rw [← hX_44]; exact BoxF.alloc _ _ _
  have HX_50 := hid hX_44
  clear hX_44
  go_wp2_with fail
  rw [HX_50.out]
  clear HX_50
  refine (impl_Retire _ bs1 _ ls1 _ ps _ [⟨(kh : Int), 0⟩] _ (kh : Int) _ sq0 (by omega) sq1 (by omega) sq2 (by omega) sq3 (by simp) gi1 hI).mono ?_
  rintro e w4 hp
  rw [FA.out.two] at hp
  obtain ⟨d0, d1, d2, d3, rfl, dz0, -, dz1, -, dz2, -, dz3, -, -, -, -, -, -, -, db⟩ := hp
  dsimp only at dz0 dz1 dz2 dz3
  obtain ⟨dp0, dm0, dc0, rfl⟩ := owns_form3 dz0
  obtain ⟨dp1, dm1, dc1, rfl⟩ := owns_form3 dz1
  obtain ⟨dp2, dm2, dc2, rfl⟩ := owns_form3 dz2
  obtain ⟨dp3, dc3, rfl, -, -⟩ := owns_form dz3
  have zz_51 := Below.size db
  have tt_52 : Below w.heap.size w w4 := Below.trans tt_48 (Below.mono db (Below.size tt_48))
  replace bx_10 := BoxF.below bx_10 db
  replace bx_20 := BoxF.below bx_20 db
  replace bx_49 := BoxF.below bx_49 db
  replace q0 := Flat.below q0 db
  replace q1 := Flat.below q1 db
  replace q2 := Flat.below q2 db
  replace q3 := Flat.below q3 db
  replace sq0 := Flat.below sq0 db
  replace sq1 := Flat.below sq1 db
  replace sq2 := Flat.below sq2 db
  replace sq3 := Flat.below sq3 db
  have dq0 : Blocks w4 _ bs1 := Flat.of_owns dz0
  have dq1 : Ints w4 _ ls1 := Flat.of_owns dz1
  have dq2 : Ints w4 _ ps := Flat.of_owns dz2
  have dq3 : Gones w4 _ [⟨(kh : Int), 0⟩] := Flat.of_owns dz3
  clear dz0 dz1 dz2 dz3
  obtain ⟨X_53, hX_54⟩ : ∃ X, w4.alloc (.cells #[Value.slice dp0 dm0 dc0, Value.slice dp1 dm1 dc1, Value.slice dp2 dm2 dc2, Value.slice dp3 1 dc3, Value.int .i64 0] 30) = X := ⟨_, rfl⟩
  have bX_55 : Below w4.heap.size w4 X_53 := by rw [← hX_54]; exact (Below.refl _ _).alloc (Nat.le_refl _) _
  have zs_56 : w4.heap.size + 1 ≤ X_53.heap.size := by rw [← hX_54]; simp
  have zz_57 := Below.size bX_55
  have tt_58 : Below w.heap.size w X_53 := Below.trans tt_52 (Below.mono bX_55 (Below.size tt_52))
  replace bx_10 := BoxF.below bx_10 bX_55
  replace bx_20 := BoxF.below bx_20 bX_55
  replace bx_49 := BoxF.below bx_49 bX_55
  replace q0 := Flat.below q0 bX_55
  replace q1 := Flat.below q1 bX_55
  replace q2 := Flat.below q2 bX_55
  replace q3 := Flat.below q3 bX_55
  replace sq0 := Flat.below sq0 bX_55
  replace sq1 := Flat.below sq1 bX_55
  replace sq2 := Flat.below sq2 bX_55
  replace sq3 := Flat.below sq3 bX_55
  replace dq0 := Flat.below dq0 bX_55
  replace dq1 := Flat.below dq1 bX_55
  replace dq2 := Flat.below dq2 bX_55
  replace dq3 := Flat.below dq3 bX_55
  have bx_59 : BoxF X_53 w4.heap.size [Value.slice dp0 dm0 dc0, Value.slice dp1 dm1 dc1, Value.slice dp2 dm2 dc2, Value.slice dp3 1 dc3, Value.int .i64 0] := by rw [← hX_54]; exact BoxF.alloc _ _ _
  have k_61 : X_53.cell? ⟨w3.heap.size, 0, none⟩ = some (Value.slice sp0 sm0 sc0) := bx_49.1.2 0 (by simp)
  have k_62 : X_53.cell? ⟨w3.heap.size, 1, none⟩ = some (Value.slice sp1 sm1 sc1) := bx_49.1.2 1 (by simp)
  have k_63 : X_53.cell? ⟨w3.heap.size, 2, none⟩ = some (Value.slice sp2 sm2 sc2) := bx_49.1.2 2 (by simp)
  have k_64 : X_53.cell? ⟨w3.heap.size, 3, none⟩ = some (Value.slice sp3 1 sc3) := bx_49.1.2 3 (by simp)
  have k_65 : X_53.cell? ⟨w3.heap.size, 4, none⟩ = some (Value.int .i64 0) := bx_49.1.2 4 (by simp)
  rw [← hX_54] at k_61 k_62 k_63 k_64 k_65
  have HX_60 := hid hX_54
  clear hX_54
  go_wp2_with fail
  rw [HX_60.out]
  clear HX_60
  clear k_61 k_62 k_63 k_64 k_65
  refine (impl_ClassOf _ bs1 _ ls1 _ ps _ [⟨(kh : Int), 0⟩] _ _ _ sq0 (by omega) sq1 (by omega) sq2 (by omega) sq3 (by simp) gi1).mono ?_
  rintro e w5 hp
  rw [show classF _ _ = 2 from FA.out.cls] at hp
  obtain ⟨rfl, b5⟩ := hp
  have zz_66 := Below.size b5
  have tt_67 : Below w.heap.size w w5 := Below.trans tt_58 (Below.mono b5 (Below.size tt_58))
  replace bx_10 := BoxF.below bx_10 b5
  replace bx_20 := BoxF.below bx_20 b5
  replace bx_49 := BoxF.below bx_49 b5
  replace bx_59 := BoxF.below bx_59 b5
  replace q0 := Flat.below q0 b5
  replace q1 := Flat.below q1 b5
  replace q2 := Flat.below q2 b5
  replace q3 := Flat.below q3 b5
  replace sq0 := Flat.below sq0 b5
  replace sq1 := Flat.below sq1 b5
  replace sq2 := Flat.below sq2 b5
  replace sq3 := Flat.below sq3 b5
  replace dq0 := Flat.below dq0 b5
  replace dq1 := Flat.below dq1 b5
  replace dq2 := Flat.below dq2 b5
  replace dq3 := Flat.below dq3 b5
  have k_68 : w5.cell? ⟨w3.heap.size, 0, none⟩ = some (Value.slice sp0 sm0 sc0) := bx_49.1.2 0 (by simp)
  have k_69 : w5.cell? ⟨w3.heap.size, 1, none⟩ = some (Value.slice sp1 sm1 sc1) := bx_49.1.2 1 (by simp)
  have k_70 : w5.cell? ⟨w3.heap.size, 2, none⟩ = some (Value.slice sp2 sm2 sc2) := bx_49.1.2 2 (by simp)
  have k_71 : w5.cell? ⟨w3.heap.size, 3, none⟩ = some (Value.slice sp3 1 sc3) := bx_49.1.2 3 (by simp)
  have k_72 : w5.cell? ⟨w3.heap.size, 4, none⟩ = some (Value.int .i64 0) := bx_49.1.2 4 (by simp)
  go_wp2_with fail
  clear k_68 k_69 k_70 k_71 k_72
  refine (impl_Retire _ bs1 _ ls1 _ ps _ [⟨(kh : Int), 0⟩] _ ((kh : Int) + 1) _ sq0 (by omega) sq1 (by omega) sq2 (by omega) sq3 (by simp) gi1 hI1).mono ?_
  rintro e w6 hp
  rw [FA.out.bad] at hp
  obtain ⟨n0, n1, n2, n3, rfl, nz0, -, nz1, -, nz2, -, nz3, -, -, -, -, -, -, -, nb⟩ := hp
  dsimp only at nz0 nz1 nz2 nz3
  obtain ⟨np0, nm0, nc0, rfl⟩ := owns_form3 nz0
  obtain ⟨np1, nm1, nc1, rfl⟩ := owns_form3 nz1
  obtain ⟨np2, nm2, nc2, rfl⟩ := owns_form3 nz2
  obtain ⟨np3, nc3, rfl, -, -⟩ := owns_form nz3
  have zz_73 := Below.size nb
  have tt_74 : Below w.heap.size w w6 := Below.trans tt_67 (Below.mono nb (Below.size tt_67))
  replace bx_10 := BoxF.below bx_10 nb
  replace bx_20 := BoxF.below bx_20 nb
  replace bx_49 := BoxF.below bx_49 nb
  replace bx_59 := BoxF.below bx_59 nb
  replace q0 := Flat.below q0 nb
  replace q1 := Flat.below q1 nb
  replace q2 := Flat.below q2 nb
  replace q3 := Flat.below q3 nb
  replace sq0 := Flat.below sq0 nb
  replace sq1 := Flat.below sq1 nb
  replace sq2 := Flat.below sq2 nb
  replace sq3 := Flat.below sq3 nb
  replace dq0 := Flat.below dq0 nb
  replace dq1 := Flat.below dq1 nb
  replace dq2 := Flat.below dq2 nb
  replace dq3 := Flat.below dq3 nb
  have nq0 : Blocks w6 _ bs1 := Flat.of_owns nz0
  have nq1 : Ints w6 _ ls1 := Flat.of_owns nz1
  have nq2 : Ints w6 _ ps := Flat.of_owns nz2
  have nq3 : Gones w6 _ [⟨(kh : Int), 0⟩] := Flat.of_owns nz3
  clear nz0 nz1 nz2 nz3
  obtain ⟨X_75, hX_76⟩ : ∃ X, w6.alloc (.cells #[Value.slice np0 nm0 nc0, Value.slice np1 nm1 nc1, Value.slice np2 nm2 nc2, Value.slice np3 1 nc3, Value.int .i64 0] 30) = X := ⟨_, rfl⟩
  have bX_77 : Below w6.heap.size w6 X_75 := by rw [← hX_76]; exact (Below.refl _ _).alloc (Nat.le_refl _) _
  have zs_78 : w6.heap.size + 1 ≤ X_75.heap.size := by rw [← hX_76]; simp
  have zz_79 := Below.size bX_77
  have tt_80 : Below w.heap.size w X_75 := Below.trans tt_74 (Below.mono bX_77 (Below.size tt_74))
  replace bx_10 := BoxF.below bx_10 bX_77
  replace bx_20 := BoxF.below bx_20 bX_77
  replace bx_49 := BoxF.below bx_49 bX_77
  replace bx_59 := BoxF.below bx_59 bX_77
  replace q0 := Flat.below q0 bX_77
  replace q1 := Flat.below q1 bX_77
  replace q2 := Flat.below q2 bX_77
  replace q3 := Flat.below q3 bX_77
  replace sq0 := Flat.below sq0 bX_77
  replace sq1 := Flat.below sq1 bX_77
  replace sq2 := Flat.below sq2 bX_77
  replace sq3 := Flat.below sq3 bX_77
  replace dq0 := Flat.below dq0 bX_77
  replace dq1 := Flat.below dq1 bX_77
  replace dq2 := Flat.below dq2 bX_77
  replace dq3 := Flat.below dq3 bX_77
  replace nq0 := Flat.below nq0 bX_77
  replace nq1 := Flat.below nq1 bX_77
  replace nq2 := Flat.below nq2 bX_77
  replace nq3 := Flat.below nq3 bX_77
  have bx_81 : BoxF X_75 w6.heap.size [Value.slice np0 nm0 nc0, Value.slice np1 nm1 nc1, Value.slice np2 nm2 nc2, Value.slice np3 1 nc3, Value.int .i64 0] := by rw [← hX_76]; exact BoxF.alloc _ _ _
  have k_83 : X_75.cell? ⟨w3.heap.size, 0, none⟩ = some (Value.slice sp0 sm0 sc0) := bx_49.1.2 0 (by simp)
  have k_84 : X_75.cell? ⟨w3.heap.size, 1, none⟩ = some (Value.slice sp1 sm1 sc1) := bx_49.1.2 1 (by simp)
  have k_85 : X_75.cell? ⟨w3.heap.size, 2, none⟩ = some (Value.slice sp2 sm2 sc2) := bx_49.1.2 2 (by simp)
  have k_86 : X_75.cell? ⟨w3.heap.size, 3, none⟩ = some (Value.slice sp3 1 sc3) := bx_49.1.2 3 (by simp)
  have k_87 : X_75.cell? ⟨w3.heap.size, 4, none⟩ = some (Value.int .i64 0) := bx_49.1.2 4 (by simp)
  rw [← hX_76] at k_83 k_84 k_85 k_86 k_87
  have HX_82 := hid hX_76
  clear hX_76
  go_wp2_with fail
  rw [HX_82.out]
  clear HX_82
  clear k_83 k_84 k_85 k_86 k_87
  refine (impl_Pass _ bs1 _ ls1 _ ps _ [⟨(kh : Int), 0⟩] _ _ sq0 (by omega) sq1 (by omega) sq2 (by omega) sq3 (by simp) gi1).mono ?_
  rintro e w7 hp
  rw [FA.out.pass] at hp
  obtain ⟨f0, f1, f2, f3, rfl, fz0, -, fz1, -, fz2, -, fz3, -, -, -, -, -, -, -, fb⟩ := hp
  dsimp only at fz0 fz1 fz2 fz3
  obtain ⟨fp0, fm0, fc0, rfl⟩ := owns_form3 fz0
  obtain ⟨fp1, fm1, fc1, rfl⟩ := owns_form3 fz1
  obtain ⟨fp2, fm2, fc2, rfl⟩ := owns_form3 fz2
  obtain ⟨fp3, fm3, fc3, rfl⟩ := owns_form3 fz3
  have zz_88 := Below.size fb
  have tt_89 : Below w.heap.size w w7 := Below.trans tt_80 (Below.mono fb (Below.size tt_80))
  replace bx_10 := BoxF.below bx_10 fb
  replace bx_20 := BoxF.below bx_20 fb
  replace bx_49 := BoxF.below bx_49 fb
  replace bx_59 := BoxF.below bx_59 fb
  replace bx_81 := BoxF.below bx_81 fb
  replace q0 := Flat.below q0 fb
  replace q1 := Flat.below q1 fb
  replace q2 := Flat.below q2 fb
  replace q3 := Flat.below q3 fb
  replace sq0 := Flat.below sq0 fb
  replace sq1 := Flat.below sq1 fb
  replace sq2 := Flat.below sq2 fb
  replace sq3 := Flat.below sq3 fb
  replace dq0 := Flat.below dq0 fb
  replace dq1 := Flat.below dq1 fb
  replace dq2 := Flat.below dq2 fb
  replace dq3 := Flat.below dq3 fb
  replace nq0 := Flat.below nq0 fb
  replace nq1 := Flat.below nq1 fb
  replace nq2 := Flat.below nq2 fb
  replace nq3 := Flat.below nq3 fb
  have fq0 : Blocks w7 _ bs2 := Flat.of_owns fz0
  have fq1 : Ints w7 _ ls2 := Flat.of_owns fz1
  have fq2 : Ints w7 _ ps := Flat.of_owns fz2
  have fq3 : Gones w7 _ [] := Flat.of_owns fz3
  clear fz0 fz1 fz2 fz3
  obtain ⟨X_90, hX_91⟩ : ∃ X, w7.alloc (.cells #[Value.slice fp0 fm0 fc0, Value.slice fp1 fm1 fc1, Value.slice fp2 fm2 fc2, Value.slice fp3 fm3 fc3, Value.int .i64 1] 30) = X := ⟨_, rfl⟩
  have bX_92 : Below w7.heap.size w7 X_90 := by rw [← hX_91]; exact (Below.refl _ _).alloc (Nat.le_refl _) _
  have zs_93 : w7.heap.size + 1 ≤ X_90.heap.size := by rw [← hX_91]; simp
  have zz_94 := Below.size bX_92
  have tt_95 : Below w.heap.size w X_90 := Below.trans tt_89 (Below.mono bX_92 (Below.size tt_89))
  replace bx_10 := BoxF.below bx_10 bX_92
  replace bx_20 := BoxF.below bx_20 bX_92
  replace bx_49 := BoxF.below bx_49 bX_92
  replace bx_59 := BoxF.below bx_59 bX_92
  replace bx_81 := BoxF.below bx_81 bX_92
  replace q0 := Flat.below q0 bX_92
  replace q1 := Flat.below q1 bX_92
  replace q2 := Flat.below q2 bX_92
  replace q3 := Flat.below q3 bX_92
  replace sq0 := Flat.below sq0 bX_92
  replace sq1 := Flat.below sq1 bX_92
  replace sq2 := Flat.below sq2 bX_92
  replace sq3 := Flat.below sq3 bX_92
  replace dq0 := Flat.below dq0 bX_92
  replace dq1 := Flat.below dq1 bX_92
  replace dq2 := Flat.below dq2 bX_92
  replace dq3 := Flat.below dq3 bX_92
  replace nq0 := Flat.below nq0 bX_92
  replace nq1 := Flat.below nq1 bX_92
  replace nq2 := Flat.below nq2 bX_92
  replace nq3 := Flat.below nq3 bX_92
  replace fq0 := Flat.below fq0 bX_92
  replace fq1 := Flat.below fq1 bX_92
  replace fq2 := Flat.below fq2 bX_92
  replace fq3 := Flat.below fq3 bX_92
  have bx_96 : BoxF X_90 w7.heap.size [Value.slice fp0 fm0 fc0, Value.slice fp1 fm1 fc1, Value.slice fp2 fm2 fc2, Value.slice fp3 fm3 fc3, Value.int .i64 1] := by rw [← hX_91]; exact BoxF.alloc _ _ _
  have k_98 : X_90.cell? ⟨w4.heap.size, 0, none⟩ = some (Value.slice dp0 dm0 dc0) := bx_59.1.2 0 (by simp)
  have k_99 : X_90.cell? ⟨w4.heap.size, 1, none⟩ = some (Value.slice dp1 dm1 dc1) := bx_59.1.2 1 (by simp)
  have k_100 : X_90.cell? ⟨w4.heap.size, 2, none⟩ = some (Value.slice dp2 dm2 dc2) := bx_59.1.2 2 (by simp)
  have k_101 : X_90.cell? ⟨w4.heap.size, 3, none⟩ = some (Value.slice dp3 1 dc3) := bx_59.1.2 3 (by simp)
  have k_102 : X_90.cell? ⟨w4.heap.size, 4, none⟩ = some (Value.int .i64 0) := bx_59.1.2 4 (by simp)
  rw [← hX_91] at k_98 k_99 k_100 k_101 k_102
  have HX_97 := hid hX_91
  clear hX_91
  go_wp2_with fail
  rw [HX_97.out]
  clear HX_97
  clear k_98 k_99 k_100 k_101 k_102
  refine (impl_ClassIs _ bs2 _ ls2 _ ps _ [] 1 _ _ 0 fq0 fq1 fq2 fq3 gi0 FA.out.free).mono ?_
  rintro e w8 ⟨rfl, b8⟩
  have zz_103 := Below.size b8
  have tt_104 : Below w.heap.size w w8 := Below.trans tt_95 (Below.mono b8 (Below.size tt_95))
  replace bx_10 := BoxF.below bx_10 b8
  replace bx_20 := BoxF.below bx_20 b8
  replace bx_49 := BoxF.below bx_49 b8
  replace bx_59 := BoxF.below bx_59 b8
  replace bx_81 := BoxF.below bx_81 b8
  replace bx_96 := BoxF.below bx_96 b8
  replace q0 := Flat.below q0 b8
  replace q1 := Flat.below q1 b8
  replace q2 := Flat.below q2 b8
  replace q3 := Flat.below q3 b8
  replace sq0 := Flat.below sq0 b8
  replace sq1 := Flat.below sq1 b8
  replace sq2 := Flat.below sq2 b8
  replace sq3 := Flat.below sq3 b8
  replace dq0 := Flat.below dq0 b8
  replace dq1 := Flat.below dq1 b8
  replace dq2 := Flat.below dq2 b8
  replace dq3 := Flat.below dq3 b8
  replace nq0 := Flat.below nq0 b8
  replace nq1 := Flat.below nq1 b8
  replace nq2 := Flat.below nq2 b8
  replace nq3 := Flat.below nq3 b8
  replace fq0 := Flat.below fq0 b8
  replace fq1 := Flat.below fq1 b8
  replace fq2 := Flat.below fq2 b8
  replace fq3 := Flat.below fq3 b8
  have k_105 : w8.cell? ⟨w1.heap.size, 0, none⟩ = some (Value.slice p4 m4 c4) := bx_10.1.2 0 (by simp)
  have k_106 : w8.cell? ⟨w1.heap.size, 1, none⟩ = some (Value.slice p5 m5 c5) := bx_10.1.2 1 (by simp)
  have k_107 : w8.cell? ⟨w1.heap.size, 2, none⟩ = some (Value.slice p2 m2 c2) := bx_10.1.2 2 (by simp)
  have k_108 : w8.cell? ⟨w1.heap.size, 3, none⟩ = some (Value.slice p3 m3 c3) := bx_10.1.2 3 (by simp)
  have k_109 : w8.cell? ⟨w1.heap.size, 4, none⟩ = some (Value.int .i64 0) := bx_10.1.2 4 (by simp)
  go_wp2_with fail
  clear k_105 k_106 k_107 k_108 k_109
  refine (impl_ClassIs _ bs1 _ ls1 _ ps _ [] 0 _ _ 3 q0 q1 q2 q3 gi0 FA.out.used).mono ?_
  rintro e w9 ⟨rfl, b9⟩
  have zz_110 := Below.size b9
  have tt_111 : Below w.heap.size w w9 := Below.trans tt_104 (Below.mono b9 (Below.size tt_104))
  replace bx_10 := BoxF.below bx_10 b9
  replace bx_20 := BoxF.below bx_20 b9
  replace bx_49 := BoxF.below bx_49 b9
  replace bx_59 := BoxF.below bx_59 b9
  replace bx_81 := BoxF.below bx_81 b9
  replace bx_96 := BoxF.below bx_96 b9
  replace q0 := Flat.below q0 b9
  replace q1 := Flat.below q1 b9
  replace q2 := Flat.below q2 b9
  replace q3 := Flat.below q3 b9
  replace sq0 := Flat.below sq0 b9
  replace sq1 := Flat.below sq1 b9
  replace sq2 := Flat.below sq2 b9
  replace sq3 := Flat.below sq3 b9
  replace dq0 := Flat.below dq0 b9
  replace dq1 := Flat.below dq1 b9
  replace dq2 := Flat.below dq2 b9
  replace dq3 := Flat.below dq3 b9
  replace nq0 := Flat.below nq0 b9
  replace nq1 := Flat.below nq1 b9
  replace nq2 := Flat.below nq2 b9
  replace nq3 := Flat.below nq3 b9
  replace fq0 := Flat.below fq0 b9
  replace fq1 := Flat.below fq1 b9
  replace fq2 := Flat.below fq2 b9
  replace fq3 := Flat.below fq3 b9
  go_wp2
  go_ret
  exact ⟨rfl, tt_111⟩
end Go.Proofs.Ytdnfphpeleakcaa
