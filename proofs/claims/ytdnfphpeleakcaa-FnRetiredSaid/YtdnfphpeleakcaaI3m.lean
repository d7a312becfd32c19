/- Chapter 3's program: byPlace, inOrder. -/
import Derived.Test.YtdnfphpeleakcaaKm
import Derived.Test.YtdnfphpeleakcaaI3b
import Derived.Maps.OwnIn
import Derived.Maps.OwnOps
import Derived.Maps.OwnSet
namespace Go.Proofs.Ytdnfphpeleakcaa
set_option maxRecDepth 100000
open Go.RowKit Go.Proofs Go.Own Go.Maps
open Go
set_option linter.unusedVariables false
set_option linter.unusedSimpArgs false

theorem keyedI : Keyed Try.prog 3 := int_keyed Try.underlying3
theorem wf_of_inI {h : Int} (hw : InI h) : (Lit.int .i64 h).wf = true := by
  have h1 : IntKind.min .i64 = -9223372036854775808 := by decide
  have h2 : IntKind.max .i64 = 9223372036854775807 := by decide
  simp only [Lit.wf, Bool.and_eq_true, decide_eq_true_eq, h1, h2]
  exact hw
theorem run_makeMapN (n : Nat) (w : World) : (Instr.makeMap 72 (some (.int .i64 (n : Int)))).run Try.prog w = .ok (.map (some w.heap.size)) (w.alloc (.map #[] 0)) := by
  simp [Instr.makeMap, asIntOf, go_sem]
theorem keyI (i : Nat) (h : i ≤ 1000) : keyOf Try.prog 3 (.int .i64 (i : Int)) = some (kI i) := keyOf_int_mk Try.underlying3 (wf_of_inI (by unfold InI; omega))
theorem tidyI {w : World} {b n : Nat} {D : DG} (h : w.ownsMap Try.prog 3 gR b n D) : Tidy D := h.tidy keyedI

set_option maxRecDepth 100000 in set_option maxHeartbeats 2000000 in
theorem impl_byPlace (v : Value) (gs : List Gone) (w : World) (h : Gones w v gs) (h24 : gs.length ≤ 24) :
    Calls Try.prog 45 #[v] w fun e w' => ∃ (b : Nat) (D : DG), e = .returned (.map (some b)) ∧ w'.ownsMap Try.prog 3 gR b gs.length D ∧ w.heap.size ≤ b ∧ Kept D gs (fun _ => true) gs.length ∧ Below w.heap.size w w' := by
  obtain ⟨a, cap, rfl, hl, hm⟩ := h.form
  obtain ⟨W1, hW1⟩ : ∃ X, w.alloc (.map #[] 0) = X := ⟨_, rfl⟩
  have hB1 : Below w.heap.size w W1 := by rw [← hW1]; exact (Below.refl _ _).alloc (Nat.le_refl _) _
  have hN1 : w.heap.size + 1 = W1.heap.size := by rw [← hW1]; simp
  have mo : W1.ownsMap (H := Unit) Try.prog 3 gR w.heap.size 0 (.map []) := by rw [← hW1]; exact World.ownsMap_made _ _ _ _
  have hmk := run_makeMapN gs.length w
  go_enter Try.func45, Try.ntmps45
  go_wp2
  clear hW1
  go_loopw [11] (fun i wr => ∃ (k : Nat) (D : DG), k ≤ gs.length ∧ i = .int .i64 k ∧ wr.ownsMap Try.prog 3 gR w.heap.size k D ∧ Kept D gs (fun _ => true) k ∧ Below w.heap.size w wr ∧ W1.heap.size ≤ wr.heap.size) (fun i _ => gs.length - (intOf i).toNat)
  case atStart => exact ⟨0, _, by omega, rfl, mo, Kept.nil _ _, hB1, Nat.le_refl _⟩
  case round =>
    clear mo hB1
    obtain ⟨k, D, hk, rfl, mo, hK, hB, hsz⟩ := hrel
    by_cases hlt : k < gs.length
    · obtain ⟨⟨gh, gp⟩, ho⟩ : ∃ o, Hid (gs[k] = o) := ⟨_, hid rfl⟩
      obtain ⟨bb, off, rfl, hbs, c0, c1⟩ := Gones.at (Gones.below h hB) k hlt _ ho
      dsimp only at c0 c1
      obtain ⟨V, hV⟩ : ∃ X, (wr.alloc (.cells #[.int .i64 gh, .int .i64 gp] 70)) = X := ⟨_, rfl⟩
      have hBV : Below wr.heap.size wr V := by rw [← hV]; exact (Below.refl _ _).alloc (Nat.le_refl _) _
      have g0 : V.cell? ⟨wr.heap.size, 0, none⟩ = some (.int .i64 gh) := by rw [← hV]; simp [go_sem]
      have g1 : V.cell? ⟨wr.heap.size, 1, none⟩ = some (.int .i64 gp) := by rw [← hV]; simp [go_sem]
      have mV : V.ownsMap Try.prog 3 gR w.heap.size k D := by rw [← hV]; exact mo.alloc _
      have hkey := keyI k (by omega)
      have hKp := hK.put (tidyI mo) hlt
      rw [ho.out] at hKp
      have HK := hid hKp
      have HB := hid (hB.trans (hBV.mono hB.size))
      have HZ := hid (Nat.le_trans hsz hBV.size)
      clear mo hK hKp
      go_wp2_with (first
        | (at_mapUpdate; refine wpList_mapUpdate_own _ rfl _ _ _ 72 rfl 3 70 keyedI Try.underlying72 gR w.heap.size k D rfl mV (by unfold maxLen; omega) _ _ (kI k) rfl rfl hkey (gD ⟨gh, gp⟩) [] rfl ?_; intro w1 hown1 hg1))
      have HB1 := hid (HB.out.trans (below_grown hg1 HB.out.size (fun j e => by have := Option.some.inj e; omega)))
      have HZ1 := hid (Nat.le_trans HZ.out hg1.size)
      have HO := hid hown1
      clear hown1
      go_wp2
      go_roundw
      case rel => exact ⟨k+1, _, by omega, by go_num, HO.out, HK.out, HB1.out, HZ1.out⟩
      case measure => simp [intOf]; omega
    · obtain rfl : k = gs.length := by omega
      have HO := hid mo
      have HB := hid hB
      go_wp2
      go_ret
      exact ⟨_, _, rfl, HO.out, Nat.le_refl _, hK, HB.out⟩

theorem _root_.Go.World.grownBy_of_belowS {w w' : World} (h : Below w.heap.size w w') (r : Option Nat) : w.grownBy w' r := grownBy_of_below r h
theorem keptGs_len (gs : List Gone) (S : Nat → Bool) (m : Nat) : (keptGs gs S m).length = (keptAt S m).length := by simp [keptGs]
theorem keptGs_snoc (gs : List Gone) (S : Nat → Bool) (m k : Nat) (hk : k < (keptAt S m).length) (g : Gone) (hg : gs.getD (keptAt S m)[k] zeroG = g) : ((keptGs gs S m).take k).flatMap Gone.enc ++ g.enc = ((keptGs gs S m).take (k + 1)).flatMap Gone.enc := by
  have hk' : k < (keptGs gs S m).length := by rw [keptGs_len]; exact hk
  have e : (keptGs gs S m)[k] = g := by simp only [keptGs, List.getElem_map]; exact hg
  rw [List.take_add_one, List.getElem?_eq_getElem hk', Option.toList_some, List.flatMap_append, e]
  simp
theorem keptAt_lt (S : Nat → Bool) (m k : Nat) (hk : k < (keptAt S m).length) : (keptAt S m)[k] < m ∧ S (keptAt S m)[k] = true := by
  have := List.getElem_mem hk
  simp only [keptAt, List.mem_filter, List.mem_range] at this
  exact this

set_option maxRecDepth 100000 in set_option maxHeartbeats 2000000 in
theorem impl_inOrder (b nn : Nat) (D : DG) (gs : List Gone) (S : Nat → Bool) (w : World) (hown : w.ownsMap Try.prog 3 gR b nn D) (h24 : gs.length ≤ 24) (hK : Kept D gs S gs.length) :
    Calls Try.prog 48 #[.map (some b)] w fun e w' => ∃ v, e = .returned v ∧ w'.ownsRow w.heap.size 70 2 v (keptGs gs S gs.length).length ((keptGs gs S gs.length).flatMap Gone.enc) ∧ Below w.heap.size w w' := by
  obtain ⟨j0, hj, hy0, hy1, hy2⟩ := info_parts infoGone
  have hsz : Maps.size D = (keptAt S gs.length).length := by rw [hK.size, keptAt, List.countP_eq_length_filter]
  have hTl : (keptAt S gs.length).length ≤ 24 := by have := List.length_filter_le S (List.range gs.length); simp only [List.length_range] at this; simp only [keptAt]; omega
  have hlen := hown.len (t := 72) (e := 70) Try.underlying72
  rw [hsz] at hlen
  obtain ⟨T, hT⟩ : ∃ T, Hid (keptAt S gs.length = T) := ⟨_, hid rfl⟩
  rw [hT.out] at hsz hTl hlen
  have hms := run_makeSlice (P := Try.prog) w 28 70 j0 _ Try.underlying28 hj hy0 .i64 .i64 0 T.length (by omega) (by omega) (by rw [hy1]; omega) (by rw [hy2]; omega) (by omega)
  rw [hy1, Int.toNat_natCast, show (0 : Int).toNat = 0 from rfl] at hms
  obtain ⟨W1, hW1⟩ : ∃ X, w.alloc (.cells (madeCells (Value.agg #[.int .i64 0, .int .i64 0]).cells (T.length * 2)) 70) = X := ⟨_, rfl⟩
  rw [hW1] at hms
  have hB1 : Below w.heap.size w W1 := by rw [← hW1]; exact (Below.refl _ _).alloc (Nat.le_refl _) _
  have hN1 : w.heap.size + 1 = W1.heap.size := by rw [← hW1]; simp
  have row : W1.ownsRow w.heap.size 70 2 (.slice (some ⟨w.heap.size, 0, none⟩) 0 T.length) 0 [] := by rw [← hW1]; exact World.ownsRow_made _ _ _ (Nat.le_refl _) (by unfold maxLen; omega) (size_madeCells _ _)
  have hbl := hown.lt
  have mo1 : W1.ownsMap Try.prog 3 gR b nn D := by rw [← hW1]; exact hown.alloc _
  go_enter Try.func48, Try.ntmps48
  clear hW1
  go_wp2_with (first
    | (go_at_call 85; refine (maps_Keys b _).mono ?_; rintro e w' ⟨rfl, rfl⟩)
    | (go_at_call 84; refine (slices_Sorted b nn D gR W1 mo1 (by rw [hsz]; unfold maxLen; omega) (by rw [hsz]; omega)).mono ?_; rintro e w3 ⟨sv, ss, rfl, hperm, srow, b3⟩))
  have hsorted := hK.sorted hperm
  have hsl : ss.length = T.length := by
    have := hperm.length_eq.trans hK.keys.length_eq
    rw [hT.out] at this; simpa using this
  rw [hT.out] at hsorted
  rw [hsorted, hsl, show (T.map Int.ofNat).map encZ = (T.map Int.ofNat).flatMap Go.Own.encI from (encI_map _).symm] at srow
  clear hsorted hsl hperm
  obtain ⟨sp, sc, rfl, hns, hms2⟩ := owns_form srow
  have row3 := owns_below row b3
  have mo3 : w3.ownsMap Try.prog 3 gR b nn D := mo1.kept (World.grownBy_of_belowS b3 none) (by simp)
  have hB3 : Below w.heap.size w w3 := hB1.trans (b3.mono (by omega))
  have hz3 := b3.size
  have hln : (T.map Int.ofNat).length = T.length := by simp
  have HS := hid (show w.heap.size < W1.heap.size ∧ W1.heap.size ≤ w3.heap.size ∧ b < w.heap.size from ⟨by omega, hz3, hbl⟩)
  clear row mo1 hB1 b3 hlen hms
  go_wp2
  have hl25 : Sem.run Try.prog (Builtin.len_ #[25] 3 #[Value.slice sp T.length sc]) w3 = .ok (Value.int .i64 T.length) w3 := by
    simp [Builtin.len_, go_sem, Try.underlying25]
  rw [hl25]
  clear hl25
  go_wp2
  go_loopw [13, 3] (fun i vk wr => ∃ k : Nat, k ≤ T.length ∧ i = .int .i64 k ∧ wr.ownsRow w.heap.size 70 2 vk k (((keptGs gs S gs.length).take k).flatMap Gone.enc) ∧ wr.ownsRow W1.heap.size 3 1 (.slice sp T.length sc) T.length ((T.map Int.ofNat).flatMap Go.Own.encI) ∧ wr.ownsMap Try.prog 3 gR b nn D ∧ Below w.heap.size w wr ∧ w3.heap.size ≤ wr.heap.size) (fun i _ _ => T.length - (intOf i).toNat)
  case atStart => exact ⟨0, by omega, rfl, row3, srow, mo3, hB3, Nat.le_refl _⟩
  case round =>
    clear row3 srow mo3 hB3
    obtain ⟨k, hk, rfl, row, srow, mo, hB, hsz3⟩ := hrel
    obtain ⟨pk, ck, rfl, hnk, hmk⟩ := owns_form row
    by_cases hlt : k < T.length
    · obtain ⟨x, hx⟩ : ∃ x, Hid (T[k] = x) := ⟨_, hid rfl⟩
      have hkx : Hid (k < (keptAt S gs.length).length ∧ x < gs.length ∧ S x = true) := by
        have e := hT.out
        subst e
        have := keptAt_lt S gs.length k hlt
        rw [hx.out] at this
        exact hid ⟨hlt, this⟩
      obtain ⟨hxk, hxl, hxs⟩ := hkx.out
      obtain ⟨⟨gh, gp⟩, hg⟩ : ∃ g, Hid (gs[x] = g) := ⟨_, hid rfl⟩
      have hgd : gs.getD x zeroG = ⟨gh, gp⟩ := by rw [List.getD, List.getElem?_eq_getElem hxl]; exact hg.out
      have hsn := keptGs_snoc gs S gs.length k hxk ⟨gh, gp⟩ (by
        have : (keptAt S gs.length)[k] = x := by have e := hT.out; subst e; exact hx.out
        rw [this]; exact hgd)
      have hkey := keyI x (by omega)
      obtain ⟨lv, lps, hrun, hlv⟩ := mo.lookup keyedI Try.underlying72 (Try.zeroValue70 wr) (zd := gD zeroG) (zp := []) rfl hkey
      rw [hK.at_ x hxl hxl hxs, hg.out] at hlv
      obtain rfl := gR_inv hlv
      have hcell : (T.map Int.ofNat)[k]'(by rw [hln]; exact hlt) = (x : Int) := by rw [List.getElem_map, hx.out]; rfl
      obtain ⟨sb, so, hsp, hsb, sc0⟩ := Ints.at (xs := T.map Int.ofNat) (by unfold Ints; rw [hln]; exact Flat.of_owns srow) k (by rw [hln]; exact hlt)
      subst hsp
      rw [hcell] at sc0
      obtain ⟨X, hX⟩ : ∃ X, (wr.alloc (.cells #[.int .i64 gh, .int .i64 gp] 70)) = X := ⟨_, rfl⟩
      have bX : Below wr.heap.size wr X := by rw [← hX]; exact (Below.refl _ _).alloc (Nat.le_refl _) _
      have ol : X.ownsRow wr.heap.size 70 2 (.slice (some ⟨wr.heap.size, 0, none⟩) 1 1) 1 [Value.int .i64 gh, Value.int .i64 gp] := by rw [← hX]; exact owns_litN _ _ _ _ _ _ (Nat.le_refl _) rfl (by decide)
      have rowX := owns_below row bX
      have srowX := owns_below srow bX
      have moX : X.ownsMap Try.prog 3 gR b nn D := by rw [← hX]; exact mo.alloc _
      have hzX := bX.size
      have hval : Gone.val ⟨gh, gp⟩ = .agg #[.int .i64 gh, .int .i64 gp] := rfl
      rw [hval] at hrun
      have HB := hid (hB.trans (bX.mono hB.size))
      clear row srow mo hlv hB hgd hcell
      go_wp2_with (first | (at_builtin; refine wpList_append_flat rfl _ _ 28 rfl w.heap.size 70 j0 (.agg #[.int .i64 0, .int .i64 0]) 2 16 Try.underlying28 hj hy0 hy1 hy2 rfl (by decide) _ k _ rfl rowX _ 1 [Value.int .i64 gh, Value.int .i64 gp] rfl (Flat.of_owns ol) (by intro c hc; simp at hc; rcases hc with rfl | rfl <;> rfl) (by unfold maxLen; omega) (by omega) (by have := HS.out; omega) ?_))
      intro v6 w6 o6 g6
      have ltX := World.ownsRow.lt rowX
      rw [show ([Value.int .i64 gh, Value.int .i64 gp] : List Value) = Gone.enc ⟨gh, gp⟩ from rfl, hsn] at o6
      have S0 := hid o6
      have S1 := hid (World.ownsRow.kept srowX g6 (apart_types srowX rowX (by decide)).1)
      have S2 := hid (moX.kept g6 (fun e => by have := (ltX b e.symm).1; have := HS.out; omega))
      have S3 := hid (HB.out.trans (below_grown g6 HB.out.size (fun j e => (ltX j e).1)))
      have S4 := hid (show w3.heap.size ≤ w6.heap.size by have := g6.size; omega)
      clear hX o6 g6 rowX srowX moX
      go_wp2
      go_roundw
      case rel => exact ⟨k+1, by omega, by go_num, S0.out, S1.out, S2.out, S3.out, S4.out⟩
      case measure => simp [intOf]; omega
    · obtain rfl : k = T.length := by omega
      have hTk : T.length = (keptGs gs S gs.length).length := by rw [keptGs_len, hT.out]
      rw [hTk, List.take_length] at row
      have HR := hid row
      have HB := hid hB
      clear row
      go_wp2
      go_ret
      exact ⟨_, rfl, by rw [hTk]; exact HR.out, HB.out⟩
end Go.Proofs.Ytdnfphpeleakcaa
