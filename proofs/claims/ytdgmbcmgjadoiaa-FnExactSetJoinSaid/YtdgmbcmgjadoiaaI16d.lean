/- Chapter 16's program: whether there is room for a value; doubling. -/
import Derived.Test.YtdgmbcmgjadoiaaI16c
import Derived.Test.YtdgmbcmgjadoiaaF16b
namespace Go.Proofs.Ytdgmbcmgjadoiaa
set_option maxRecDepth 100000
open Go.RowKit Go.Proofs Go.Own
open Go Go.BigFrame
set_option linter.unusedVariables false
set_option linter.unusedSimpArgs false
theorem impl_place8 (x : Int) (w : World) : Calls Try.prog 55 #[.int .i64 x, .int .i64 8] w fun e w' => e = .returned (.int .i64 ((plc x 8 : Nat) : Int)) ∧ w = w' :=
  impl_bucketPlace x 8 (by omega) (by omega) w
theorem zero_run {P : Program} {t : TypeId} {v : Value} (w : World) (h : (P.info? t).bind (·.zero) = some v) : (zeroValue t).run P w = .ok v w := by
  cases e : P.info? t with
  | none => rw [e] at h; cases h
  | some i =>
    rw [e] at h
    have h2 : i.zero = some v := h
    simp [zeroValue, typeInfo, e, h2]
theorem LkS.buckets {B lo : Nat} {st : Int} {S : Nat → Prop} {w : World} {s : List RowD} (h : LkS B lo st S w s) : ∃ g c, BoxF w B [.int .i32 st, .int .u32 0, .slice (some ⟨g, 0, none⟩) s.length c] ∧ rdsL w (.slice (some ⟨g, 0, none⟩) s.length c) s := by
  obtain ⟨g, c, h1, h2, h3, h4⟩ := h
  exact ⟨g, c, h1, h2.rds⟩
set_option maxHeartbeats 8000000 in
theorem impl_mayHold (B lo : Nat) (st : Int) (S : Nat → Prop) (s : List RowD) (x : Int) (hn : 0 < s.length) (hn8 : s.length ≤ 1048576) (w : World) (h : LkS B lo st S w s) :
    Calls Try.prog 72 #[.pointer (some ⟨B, 0, none⟩), .int .i64 x] w fun e w' => e = .returned (.bool (decide (besideN s x < 3))) ∧ Below w.heap.size w w' := by
  obtain ⟨g, c, hbx, hR⟩ := h.buckets
  have hp := plc_lt x hn
  have HBK := hid (fun w (h : BoxF w B [.int .i32 st, .int .u32 0, .slice (some ⟨g, 0, none⟩) s.length c]) => impl_bucketOf B g c s.length (.int .u32 0) st x hn hn8 w h)
  have Hbk := bktAt_eq x hp
  obtain ⟨a9, cap9, e9, hl9, hm9, hc⟩ := ss_open hR
  obtain ⟨bb, off, b2, c2, xs, hxs, ha9, hbs, c0, hI⟩ := hc _ hp
  obtain ⟨rfl, rfl⟩ : g = bb ∧ off = 0 := by
    rw [ha9] at e9
    simp only [Value.slice.injEq, Option.some.injEq, Addr.mk.injEq, and_true, true_and] at e9
    exact ⟨e9.1.1, e9.1.2.symm⟩
  rw [Nat.zero_add] at c0
  have HBE := hid (show besideN s x = xs.countP (fun y => plc y 8 == plc x 8) by unfold besideN; rw [Hbk, hxs])
  have hxl : xs.length ≤ 9223372036854775807 := by obtain ⟨h1, h2, _⟩ := ints_open hI; omega
  obtain ⟨p, hpe⟩ : ∃ p, plc x s.length = p := ⟨_, rfl⟩
  rw [hpe] at c0 HBK
  have HTK := hid (fun k (h : k < xs.length) => besideN_take xs x k h)
  have HX8 := hid (fun w => impl_place8 x w)
  obtain ⟨n, hne⟩ : ∃ n, besideN s x = n := ⟨_, rfl⟩
  rw [hne] at HBE ⊢
  obtain ⟨px, hpx⟩ : ∃ q, plc x 8 = q := ⟨_, rfl⟩
  rw [hpx] at HX8 HBE
  simp only [hpx] at HTK
  clear Hbk hxs hpe hp hR h hc e9 ha9 hne hpx
  go_enter Try.func72, Try.ntmps72
  go_wp2_with fail
  refine (HBK.out _ hbx).mono ?_
  rintro e w2 ⟨rfl, bb2⟩
  have q0 := (bb2.cell (p := ⟨g, p, none⟩) hbs).trans c0
  have hI2 := Ints.below hI bb2
  obtain ⟨_, _, hci⟩ := ints_open hI2
  have HCI := hid hci
  have HB2 := hid bb2
  clear HBK hbx c0 hI hI2 bb2 hci
  go_wp2
  go_loopw [14, 5] (fun i z wr => ∃ k : Nat, k ≤ xs.length ∧ i = .int .i64 k ∧ z = .int .i64 (((xs.take k).countP (fun y => plc y 8 == px) : Nat) : Int) ∧ Hid (wr = w2)) (fun i _ _ => xs.length - (intOf i).toNat)
  case atStart => exact ⟨0, by omega, rfl, rfl, hid rfl⟩
  case round =>
    obtain ⟨k, hk, rfl, rfl, HW⟩ := hrel
    obtain rfl := HW.out.symm
    by_cases hlt : k < xs.length
    · obtain ⟨b9, o9, rfl, hb9, c9⟩ := HCI.out k hlt
      have Htk := hid (HTK.out k hlt)
      obtain ⟨y, hy⟩ : ∃ y, xs[k] = y := ⟨_, rfl⟩
      rw [hy] at c9 Htk
      have HY8 := hid (fun w => impl_place8 y w)
      obtain ⟨py, hpy⟩ : ∃ q, plc y 8 = q := ⟨_, rfl⟩
      rw [hpy] at HY8 Htk
      have hcb : (xs.take k).countP (fun y => plc y 8 == px) ≤ k := Nat.le_trans List.countP_le_length (by rw [List.length_take]; omega)
      obtain ⟨n1, hn1⟩ : ∃ n, (xs.take k).countP (fun y => plc y 8 == px) = n := ⟨_, rfl⟩
      rw [hn1] at Htk hcb ⊢
      clear HTK hy hpy hn1 HCI
      go_wp2_with fail
      refine (HY8.out _).mono ?_
      rintro e w3 ⟨rfl, rfl⟩
      go_wp2_with fail
      refine (HX8.out _).mono ?_
      rintro e w3 ⟨rfl, rfl⟩
      by_cases hpp : py = px
      · have Ht := hid (show (xs.take (k+1)).countP (fun y => plc y 8 == px) = n1 + 1 by rw [Htk.out, if_pos hpp])
        have heq : ((py : Int) == (px : Int)) = true := by simp [hpp]
        have hwp : IntKind.i64.wrap ((n1 : Int) + 1) = (n1 : Int) + 1 := by rw [IntKind.wrap_i64]; omega
        clear Htk hpp
        go_wp2
        go_roundw
        case rel => exact ⟨k+1, by omega, by go_num, by rw [Ht.out]; go_num, hid (by first | rfl | trivial)⟩
        case measure => simp [intOf]; omega
      · have Ht := hid (show (xs.take (k+1)).countP (fun y => plc y 8 == px) = n1 by rw [Htk.out, if_neg hpp, Nat.add_zero])
        have heq : ((py : Int) == (px : Int)) = false := by rw [beq_eq_false_iff_ne]; omega
        clear Htk hpp
        go_wp2
        go_roundw
        case rel => exact ⟨k+1, by omega, by go_num, by rw [Ht.out], hid (by first | rfl | trivial)⟩
        case measure => simp [intOf]; omega
    · obtain rfl : k = xs.length := by omega
      have Ht := hid (show (xs.take xs.length).countP (fun y => plc y 8 == px) = n by rw [List.take_length]; exact HBE.out.symm)
      rw [Ht.out]
      clear HTK HCI
      by_cases h3 : (n : Int) < 3
      · have Hx := hid (show decide (n < 3) = true by exact decide_eq_true (by omega))
        go_wp2
        go_ret
        exact ⟨ret_bool Hx.out.symm, HB2.out⟩
      · have Hx := hid (show decide (n < 3) = false by exact decide_eq_false (by omega))
        go_wp2
        go_ret
        exact ⟨ret_bool Hx.out.symm, HB2.out⟩
set_option maxHeartbeats 8000000 in
theorem impl_double (B lo : Nat) (st : Int) (s : List RowD) (hn : 0 < s.length) (hn8 : s.length ≤ 8) (hN : (allL s).length ≤ 1000) (S : Nat → Prop) (w : World) (hlo : lo ≤ w.heap.size) (h : LkS B lo st S w s) :
    Calls Try.prog 74 #[.pointer (some ⟨B, 0, none⟩)] w fun e w' => ∃ S' : Nat → Prop, e = .returned (.tuple #[]) ∧ LkS B lo st S' w' (dblS s) ∧ (∀ b, S' b → S b ∨ (w.heap.size ≤ b ∧ b < w'.heap.size)) ∧ ChgS (fun b => S b ∨ b = B) w w' := by
  obtain ⟨i0, hi, hz0, hz1, hz2⟩ := info_parts infoRow16
  obtain ⟨g, c, hbx, hO, hS, hloB⟩ := h
  have HCC := hid (fun w (r : rdsL w (.slice (some ⟨g, 0, none⟩) s.length c) s) => impl_Concat s _ w r (by omega))
  have HD := hid (show dblS s = foldPut (emptyS (2 * s.length)) ((allL s).take (allL s).length) by rw [List.take_length]; rfl)
  obtain ⟨m, hm⟩ : ∃ m, 2 * s.length = m := ⟨_, rfl⟩
  rw [hm] at HD
  have HNN := hid hN
  have HM := hid hm
  generalize dblS s = D at *
  generalize allL s = L at *
  have k2 : w.cell? ⟨B, 2, none⟩ = some (.slice (some ⟨g, 0, none⟩) s.length c) := hbx.1.2 2 (by simp)
  have hR := hO.rds
  go_enter Try.func74, Try.ntmps74
  go_wp2_with fail
  refine (HCC.out _ hR).mono ?_
  rintro e w2 ⟨u2, rfl, o2, b2⟩
  obtain ⟨p2, c2, rfl, -, -⟩ := owns_form o2
  have bx2 := hbx.below b2
  have hO2 := hO.keep (fun k hk => b2.block k (hS k hk).2.1)
  obtain ⟨v', css, R, e', hr1, hr2, hr3, -, -, -⟩ := hO2
  obtain rfl : Value.slice (some ⟨g, 0, none⟩) s.length c = v' := by simpa using e'
  have hSg : S g := hr3 g rfl
  have hrow : w2.ownsRow 0 22 1 (.slice (some ⟨g, 0, none⟩) s.length c) s.length css.flatten := hr2
  have hgl : g < w2.heap.size := Nat.lt_of_lt_of_le (hS g hSg).2.1 b2.size
  have hvz : ∀ w, (zeroValue 22).run Try.prog w = .ok (.slice none 0 0) w := fun w => zero_run w (by kernel_rfl)
  have k2b : w2.cell? ⟨B, 2, none⟩ = some (.slice (some ⟨g, 0, none⟩) s.length c) := bx2.1.2 2 (by simp)
  obtain ⟨W3, hW3⟩ : ∃ X, w2.setCells g 0 (List.replicate s.length (.slice none 0 0)) = X := ⟨_, rfl⟩
  have hclr : ∀ ty, (Builtin.clear_ #[34] ty #[.slice (some ⟨g, 0, none⟩) s.length c]).run Try.prog w2 = .ok (.tuple #[]) W3 := fun ty => by
    rw [← hW3]
    exact Lib.run_clear_slice w2 34 22 ty (.slice none 0 0) Try.underlying34 hvz rfl rfl g 0 s.length c hn (fun j hj => by rw [Nat.zero_add, hrow.cellAt j (by omega)]; rw [List.getElem?_eq_getElem (by have := hrow.1; omega)]; rfl) (fun j hj => by rw [Nat.zero_add]; exact hrow.frozenAt j)
  have hrow3 : W3.ownsRow 0 22 1 (.slice (some ⟨g, 0, none⟩) s.length c) s.length (List.replicate s.length (.slice none 0 0)) := by
    rw [← hW3]
    have z := owns_cells (List.replicate s.length (Value.slice none 0 0)) 0 w2 _ hrow (by simp)
    have e1 : css.flatten.drop (0 + (List.replicate s.length (Value.slice none 0 0)).length) = [] := List.drop_eq_nil_of_le (by rw [List.length_replicate]; have := hrow.1; omega)
    rw [e1, List.append_nil, List.take_zero, List.nil_append] at z
    exact z
  have C23 : ChgS (fun k => k = g) w2 W3 := by rw [← hW3]; exact chg_cells _ _ _
  have hgB : g ≠ B := (hS g hSg).2.2
  have bx3 := bx2.chg C23 (fun e => hgB e.symm)
  have k23 : W3.cell? ⟨B, 2, none⟩ = some (.slice (some ⟨g, 0, none⟩) s.length c) := bx3.1.2 2 (by simp)
  have f23 : W3.frozen? ⟨B, 2, none⟩ = false := bx3.2 2 (by simp)
  have o3 := owns_same o2 (fun b hb => C23.block b (World.ownsRow.lt o2 b hb).2 (fun e => by have z := (World.ownsRow.lt o2 b hb).1; have := (hS g hSg).2.1; omega))
  have hs3 : w2.heap.size ≤ W3.heap.size := C23.size
  obtain ⟨g5, c5, w5, hap, o5, C35, hg5, hgl5⟩ := append_zeros_own (P := Try.prog) W3.drew 34 3 34 22 i0 (.slice none 0 0) .i64 .i64 Try.underlying34 Try.underlying3 hi hz0 rfl rfl hz1 0 g s.length c s.length _ (owns_drew hrow3) hn (by omega) (by omega)
  have e5 : List.replicate s.length (Value.slice none 0 0) ++ List.replicate s.length (Value.slice none 0 0) = List.replicate m (Value.slice none 0 0) := by rw [List.replicate_append_replicate]; congr 1; omega
  have hsm : s.length + s.length = m := by omega
  rw [e5, hsm] at o5
  rw [hsm] at hap
  have C35' : ChgS (fun k => k = g) W3 w5 := (chg_drew _ W3).trans C35
  have bx5 := bx3.chg C35' (fun e => hgB e.symm)
  have f25 : w5.frozen? ⟨B, 2, none⟩ = false := bx5.2 2 (by simp)
  have k25 : w5.cell? ⟨B, 2, none⟩ = some (.slice (some ⟨g, 0, none⟩) s.length c) := bx5.1.2 2 (by simp)
  have o5L := owns_same o3 (fun b hb => C35'.block b (World.ownsRow.lt o3 b hb).2 (fun e => by have z := (World.ownsRow.lt o2 b hb).1; have := (hS g hSg).2.1; omega))
  have hg5B : g5 ≠ B := by
    rcases hg5 with e | e
    · rw [e]; exact hgB
    · have := bx3.1.1; rw [e]; show W3.heap.size ≠ B; omega
  have hg5lo : lo ≤ g5 := by
    rcases hg5 with e | e
    · rw [e]; exact (hS g hSg).1
    · rw [e]; show lo ≤ W3.heap.size; have := b2.size; omega
  have hg5n : S g5 ∨ w2.heap.size ≤ g5 := by
    rcases hg5 with e | e
    · rw [e]; exact .inl hSg
    · rw [e]; exact .inr (by show w2.heap.size ≤ W3.heap.size; omega)
  obtain ⟨W6, hW6⟩ : ∃ X, w5.setCell ⟨B, 2, none⟩ (.slice (some ⟨g5, 0, none⟩) m c5) = X := ⟨_, rfl⟩
  have hs6 : W6.heap.size = w5.heap.size := by rw [← hW6]; simp [World.setCell]
  have B6 : ChgS (fun b => S b ∨ b = B) w W6 := by
    rw [← hW6]
    have c1 : ChgS S w w5 := ((ChgS.of_below b2 S).trans (C23.mono fun k hk => by subst hk; exact hSg)).trans (C35'.mono fun k hk => by subst hk; exact hSg)
    exact (c1.mono fun b hb => .inl hb).set _ _ (.inr rfl)
  have hL6 : LkS B lo st (fun b => b = g5) W6 (emptyS m) := by
    have hlm : (emptyS m).length = m := by simp [emptyS]
    have oz : ownL (Blk (.slice (some ⟨g5, 0, none⟩) m c5)) w5 (.slice (some ⟨g5, 0, none⟩) m c5) (emptyS m) := by
      refine ⟨_, List.replicate m [.slice none 0 0], fun _ _ => False, rfl, by simp [hlm], ?_, fun k hk => hk, fun _ _ h => h.elim, fun _ _ _ _ h => h.elim, fun i h1 h2 => ?_⟩
      · rw [hlm]
        have e : ∀ q, (List.replicate q [Value.slice none 0 0]).flatten = List.replicate q (Value.slice none 0 0) := fun q => by
          induction q with
          | zero => rfl
          | succ n ih => rw [List.replicate_succ, List.flatten_cons, ih, List.replicate_succ]; rfl
        rw [e]; exact o5
      · have e1 : (emptyS m)[i] = ⟨[]⟩ := by simp [emptyS]
        have e2 : (List.replicate m [Value.slice none 0 0])[i] = [Value.slice none 0 0] := by simp
        rw [e1, e2]
        exact ⟨_, rfl, ownL_nil _ _⟩
    refine ⟨g5, c5, ?_, ?_, ?_, hloB⟩
    · rw [hlm, ← hW6]; exact bx5.set 2 (by simp) _
    · rw [hlm, ← hW6]
      exact (oz.keep (fun b hb => heap_setCell_other _ _ b _ (by obtain rfl : g5 = b := Option.some.inj hb; exact hg5B))).mono (fun b hb => by obtain rfl : g5 = b := Option.some.inj hb; rfl)
    · intro b hb
      have hb : b = g5 := hb
      subst hb
      exact ⟨hg5lo, by omega, hg5B⟩
  have hL6o : W6.ownsRow w.heap.size 3 1 (.slice p2 L.length c2) L.length (L.flatMap Go.Own.encI) := by
    rw [← hW6]
    exact owns_same o5L (fun b hb => heap_setCell_other _ _ b _ (by have z := (World.ownsRow.lt o2 b hb).1; have := hbx.1.1; show b ≠ B; omega))
  have HAP := hid hap
  have HL6 := hid hL6
  have HO6 := hid hL6o
  have HB6 := hid B6
  have HLO := hid hlo
  have hw26 : w2.heap.size ≤ W6.heap.size := by have := C35'.size; omega
  have HS6 := hid (show ∀ b, b = g5 → S b ∨ (w2.heap.size ≤ b ∧ b < W6.heap.size) from fun b hb => by
    subst hb
    exact hg5n.imp id fun h => ⟨h, by omega⟩)
  have hBw : B < w.heap.size := hbx.1.1
  have hww2 : w.heap.size ≤ w2.heap.size := b2.size
  have HSl := hid (fun b (hb : S b) => (hS b hb).2.1)
  have hPL := hid (fun b (hb : (Value.slice p2 L.length c2).ownBlock = some b) => World.ownsRow.lt o2 b hb)
  clear hL6 hL6o B6 o5 o5L o3 hrow3 bx3 C35 C35' hrow hr1 hr2 hr3 hR hO hbx bx2 o2 C23 bx5 e5 hap e' hsm hg5n
  go_wp2
  go_region_law (refine step_append_zeros rfl (.tmp 18) (.tmp 23) 34 3 rfl _ _ rfl rfl _ _ (HAP.out) ?_)
  all_goals
    try rw [hW6]
    clear hW6 hW3
    go_wp2
    go_loopw [29] (fun i wr => ∃ (k : Nat) (X : List RowD) (T : Nat → Prop), k ≤ L.length ∧ i = .int .i64 k ∧ X.length = m ∧ Hid (X = foldPut (emptyS m) (L.take k)) ∧ Hid (AscS X) ∧ Hid (LkS B lo st T wr X) ∧ Hid (∀ b, T b → S b ∨ (w2.heap.size ≤ b ∧ b < wr.heap.size)) ∧ Hid (wr.ownsRow w.heap.size 3 1 (.slice p2 L.length c2) L.length (L.flatMap Go.Own.encI)) ∧ w2.heap.size ≤ wr.heap.size ∧ Hid (ChgS (fun b => S b ∨ b = B) w wr)) (fun i _ => L.length - (intOf i).toNat)
    case atStart => exact ⟨0, emptyS m, _, by omega, rfl, by simp [emptyS], hid rfl, hid (emptyS_asc m), HL6, HS6, HO6, hw26, HB6⟩
    case round =>
      clear HL6 HO6 HB6 HS6 hw26
      obtain ⟨k, X, T, hk, rfl, hX, HX, HA, HL, HT, HO, hw2r, HC⟩ := hrel
      by_cases hlt : k < L.length
      · obtain ⟨_, _, hci⟩ := ints_open (show Ints wr (.slice p2 L.length c2) L from Flat.of_owns HO.out)
        obtain ⟨b9, o9, hp9, hb9, c9⟩ := hci k hlt
        have hp9' := hp9
        subst hp9'
        have Htk := hid (take_snocR L k hlt)
        obtain ⟨x, hx⟩ : ∃ x, L[k] = x := ⟨_, rfl⟩
        rw [hx] at c9 Htk
        have hXn : 0 < X.length := by have := HM.out; omega
        have hX8 : X.length ≤ 1048576 := by have := HM.out; omega
        have HPT := hid (impl_put B lo st X x hXn hX8 T wr HL.out (ascS_bkt HA.out hXn x) (by
          have z := bktAt_le X hXn x
          have z2 : (allL X).length ≤ L.length := by
            rw [HX.out]
            have h2 := (foldPut_perm (L.take k) (emptyS m) (by simp [emptyS]; have := HM.out; omega)).length_eq
            rw [emptyS_all, List.append_nil, List.length_take] at h2
            omega
          have := HNN.out; omega))
        have HX2 := hid (show putAt X x = foldPut (emptyS m) (L.take (k+1)) by rw [HX.out, ← foldPut_snoc, Htk.out])
        have HA2 := hid (putAt_asc HA.out x)
        have hbP := hPL.out b9 rfl
        clear hci hp9 hx Htk HX HA HL
        go_wp2_with fail
        refine HPT.out.mono ?_
        rintro e w7 ⟨T', rfl, hL7, hT7, C7⟩
        have hnT : ∀ b, T b → ¬ (w.heap.size ≤ b ∧ b < w2.heap.size) := fun b hb hq => by
          rcases HT.out b hb with h9 | h9
          · have := HSl.out b h9; omega
          · omega
        have HO7 := hid (owns_same HO.out (fun b hb => C7.block b (World.ownsRow.lt HO.out b hb).2 (fun e => hnT b e (hPL.out b hb))))
        have HT7 := hid (show ∀ b, T' b → S b ∨ (w2.heap.size ≤ b ∧ b < w7.heap.size) from fun b hb => by
          have hs7 := C7.size
          rcases hT7 b hb with h9 | h9
          · exact (HT.out b h9).imp id fun h => ⟨h.1, by omega⟩
          · exact .inr ⟨by omega, h9.2⟩)
        have HC7 := hid (show ChgS (fun b => S b ∨ b = B) w w7 from ⟨C7.os.trans HC.out.os, C7.tape.trans HC.out.tape, C7.output.trans HC.out.output, Nat.le_trans HC.out.size C7.size, fun b hb hn => by
          rw [C7.block b (Nat.lt_of_lt_of_le hb HC.out.size) (fun e => by
            rcases HT.out b e with h9 | h9
            · exact hn (.inl h9)
            · omega)]
          exact HC.out.block b hb hn⟩)
        have HL7 := hid hL7
        have hw27 : w2.heap.size ≤ w7.heap.size := Nat.le_trans hw2r C7.size
        have hXl : (putAt X x).length = m := (putAt_len X x).trans hX
        generalize putAt X x = X7 at *
        clear hL7 hT7 C7 HPT HO HT HC hnT
        go_wp2
        go_roundw
        case rel => exact ⟨k+1, X7, T', by omega, by go_num, hXl, HX2, HA2, HL7, HT7, HO7, hw27, HC7⟩
        case measure => simp [intOf]; omega
      · obtain rfl : k = L.length := by omega
        have HD9 := hid (show X = D by rw [HX.out, HD.out])
        have HT9 := hid (show ∀ b, T b → S b ∨ (w.heap.size ≤ b ∧ b < wr.heap.size) from fun b hb => (HT.out b hb).imp id fun h => ⟨by omega, h.2⟩)
        clear HX HA HO HT
        go_wp2
        go_end0
        exact ⟨T, rfl, by rw [← HD9.out]; exact HL.out, HT9.out, HC.out⟩
end Go.Proofs.Ytdgmbcmgjadoiaa
