/- Chapter 7's data in memory: descriptors, stores; the laws' own copies of them. -/
import Derived.Test.YtbbdchlabdilcabGreatM1
import Derived.Test.YtbbdchlabdilcabGreatBase2
import Derived.Test.YtbbdchlabdilcabGreatEnc2
import Derived.Test.YtbbdchlabdilcabGreatTypes7
import Derived.StillTailTactics
namespace Go.Proofs.YtbbdchlabdilcabGreat
set_option maxRecDepth 100000
open Go.RowKit Go.Proofs Go.Own
set_option linter.unusedSimpArgs false
set_option linter.unusedVariables false

set_option maxHeartbeats 1000000 in
theorem toDesc_c (s0 : Int) (s1 : Int) (v2 : Value) (x2 : List Entry) (w : World) (hx2 : x2.length ≤ 1048576) (h2 : Entrys w v2 x2) :
    Calls Tryz.prog 76 #[.agg #[.int .i64 s0, .int .i64 s1, v2]] w fun e w' => ∃ u2, e = .returned (.agg #[.int .i64 s0, .int .i64 s1, u2]) ∧ w'.ownsRow w.heap.size 121 5 u2 x2.length (x2.flatMap Entry.enc) ∧ Below w.heap.size w w' := by
  obtain ⟨a2, cap2, rfl, hl2, hm2⟩ := h2.form
  go_enter Tryz.func76, Tryz.ntmps76
  go_wp2_with fail
  refine (toEntryS_c _ x2 _ hx2 (Flat.below h2 (by repeat (first | exact Below.refl _ _ | refine below_drewN ?_ _ | refine Below.alloc ?_ (by simp; try omega) _)))).mono ?_
  rintro e w2 ⟨u2, rfl, o2, b⟩
  obtain ⟨ua2, uc2, rfl, _, _⟩ := owns_form o2
  have hB_w2 : Below w.heap.size w w2 := Below.trans (by repeat (first | exact Below.refl _ _ | refine below_drewN ?_ _ | refine Below.alloc ?_ (by simp; try omega) _)) (b.mono (by simp; try omega))
  have hS_w2 : w.heap.size + 3 ≤ w2.heap.size := by have := b.size; simp at this; omega
  replace o2 := owns_mono (base' := w.heap.size + 3) o2 (by simp)
  have c0w2 : w2.cell? ⟨w.heap.size + 1 + 1, 0, none⟩ = some (.int .i64 s0) := by rw [b.cell (p := ⟨w.heap.size + 1 + 1, 0, none⟩) (by simp; try omega)]; simp [go_sem]
  have cf0w2 : w2.frozen? ⟨w.heap.size + 1 + 1, 0, none⟩ = false := by rw [b.frozen (p := ⟨w.heap.size + 1 + 1, 0, none⟩) (by simp; try omega)]; simp [go_sem]
  have c1w2 : w2.cell? ⟨w.heap.size + 1 + 1, 1, none⟩ = some (.int .i64 s1) := by rw [b.cell (p := ⟨w.heap.size + 1 + 1, 1, none⟩) (by simp; try omega)]; simp [go_sem]
  have cf1w2 : w2.frozen? ⟨w.heap.size + 1 + 1, 1, none⟩ = false := by rw [b.frozen (p := ⟨w.heap.size + 1 + 1, 1, none⟩) (by simp; try omega)]; simp [go_sem]
  have c2w2 : w2.cell? ⟨w.heap.size + 1 + 1, 2, none⟩ = some (.slice none 0 0) := by rw [b.cell (p := ⟨w.heap.size + 1 + 1, 2, none⟩) (by simp; try omega)]; simp [go_sem]
  have cf2w2 : w2.frozen? ⟨w.heap.size + 1 + 1, 2, none⟩ = false := by rw [b.frozen (p := ⟨w.heap.size + 1 + 1, 2, none⟩) (by simp; try omega)]; simp [go_sem]
  have d0w2 : w2.cell? ⟨w.heap.size + 1, 0, none⟩ = some (.int .i64 0) := by rw [b.cell (p := ⟨w.heap.size + 1, 0, none⟩) (by simp; try omega)]; simp [go_sem]
  have df0w2 : w2.frozen? ⟨w.heap.size + 1, 0, none⟩ = false := by rw [b.frozen (p := ⟨w.heap.size + 1, 0, none⟩) (by simp; try omega)]; simp [go_sem]
  have d1w2 : w2.cell? ⟨w.heap.size + 1, 1, none⟩ = some (.int .i64 0) := by rw [b.cell (p := ⟨w.heap.size + 1, 1, none⟩) (by simp; try omega)]; simp [go_sem]
  have df1w2 : w2.frozen? ⟨w.heap.size + 1, 1, none⟩ = false := by rw [b.frozen (p := ⟨w.heap.size + 1, 1, none⟩) (by simp; try omega)]; simp [go_sem]
  have d2w2 : w2.cell? ⟨w.heap.size + 1, 2, none⟩ = some (.slice none 0 0) := by rw [b.cell (p := ⟨w.heap.size + 1, 2, none⟩) (by simp; try omega)]; simp [go_sem]
  have df2w2 : w2.frozen? ⟨w.heap.size + 1, 2, none⟩ = false := by rw [b.frozen (p := ⟨w.heap.size + 1, 2, none⟩) (by simp; try omega)]; simp [go_sem]
  clear b
  go_wp2
  refine bodyPost_ret (v := .agg #[.int .i64 s0, .int .i64 s1, .slice ua2 x2.length uc2]) ?_ rfl ⟨_, rfl, ?_, ?_⟩
  · simp [results, Tryz.results76, go_sem, d0w2, d1w2, d2w2]
  · refine owns_mono (base := w.heap.size + 3) ?_ (by omega)
    repeat (refine owns_setCell ?_ _ _ (by simp; try omega))
    exact o2
  · repeat (refine Below.setCell ?_ (by simp; try omega) _)
    exact hB_w2

set_option maxHeartbeats 1000000 in
theorem eqDesc_c (s0 : Int) (s1 : Int) (v2 u2 : Value) (x2 : List Entry) (w : World) (h2 : Entrys w v2 x2) (g2 : Entrys w u2 x2) :
    Calls Tryz.prog 93 #[.agg #[.int .i64 s0, .int .i64 s1, v2], .agg #[.int .i64 s0, .int .i64 s1, u2]] w fun e w' => e = .returned (.bool true) ∧ Below w.heap.size w w' := by
  obtain ⟨a2, cap2, rfl, hl2, hm2⟩ := h2.form
  obtain ⟨ua2, uc2, rfl, ul2, um2⟩ := g2.form
  go_enter Tryz.func93, Tryz.ntmps93
  go_wp2_with fail
  refine (eqEntryS_c _ _ x2 _ (Flat.below h2 (by repeat (first | exact Below.refl _ _ | refine below_drewN ?_ _ | refine Below.alloc ?_ (by simp; try omega) _))) (Flat.below g2 (by repeat (first | exact Below.refl _ _ | refine below_drewN ?_ _ | refine Below.alloc ?_ (by simp; try omega) _)))).mono ?_
  rintro e w2 ⟨rfl, b⟩
  have hB_w2 : Below w.heap.size w w2 := Below.trans (by repeat (first | exact Below.refl _ _ | refine below_drewN ?_ _ | refine Below.alloc ?_ (by simp; try omega) _)) (b.mono (by simp; try omega))
  clear b
  go_wp2
  go_ret
  exact ⟨rfl, hB_w2⟩

set_option maxHeartbeats 1000000 in
theorem szDesc_c (s0 : Int) (s1 : Int) (a2 : Option Addr) (n2 cap2 : Nat) (k : Int) (w : World) (hn2 : n2 ≤ 9223372036854775807) (h0 : 0 ≤ k) (h1 : k ≤ 1048576) :
    Calls Tryz.prog 62 #[.agg #[.int .i64 s0, .int .i64 s1, .slice a2 n2 cap2], .int .i64 k] w fun e w' => e = .returned (.int .i64 (if k < (n2 : Int) then -1 else k - ((n2 : Int)))) ∧ Below w.heap.size w w' := by
  go_enter Tryz.func62, Tryz.ntmps62
  go_wp2_with fail
  refine (szEntryS_c _ _ _ _ _ (by omega) (by omega) (by omega)).mono ?_
  rintro e w' ⟨rfl, rfl⟩
  by_cases hk2 : k < (n2 : Int)
  · rw [if_pos hk2]
    go_wp2
    go_ret
    all_goals first | exact ⟨rfl, (by repeat (first | exact Below.refl _ _ | refine below_drewN ?_ _ | refine Below.alloc ?_ (by simp; try omega) _))⟩ | (exfalso; omega)
  rw [if_neg hk2]
  go_wp2
  go_ret
  all_goals first | exact ⟨ret_int (by omega), (by repeat (first | exact Below.refl _ _ | refine below_drewN ?_ _ | refine Below.alloc ?_ (by simp; try omega) _))⟩ | (exfalso; omega)



end Go.Proofs.YtbbdchlabdilcabGreat
namespace Go.Proofs.YtbbdchlabdilcabGreat
set_option maxRecDepth 100000
open Go.RowKit Go.Proofs Go.Own
set_option linter.unusedVariables false
set_option linter.unusedSimpArgs false
instance encEntry : FlatEnc Entry := flatEnc Entry.enc 5 121 (fun _ => rfl)
instance encHead : FlatEnc Head := flatEnc Head.enc 3 55 (fun _ => rfl)
instance encFrame : FlatEnc Frame := flatEnc Frame.enc 3 91 (fun _ => rfl)
structure DescD where
  owner_ : Int
  status_ : Int
  entries_ : List Entry
structure StoreD where
  heads_ : List Head
  descs_ : List DescD
instance encDesc : Enc DescD where
  sz := 3
  ty := 85
  rds w cs d := ∃ v2, cs = [Value.int .i64 d.owner_, Value.int .i64 d.status_, v2] ∧ rdsL w v2 d.entries_
  own S w cs d := ∃ v2, cs = [Value.int .i64 d.owner_, Value.int .i64 d.status_, v2] ∧ ownL S w v2 d.entries_
  rds_len := by rintro w cs d ⟨v2, rfl, _⟩; rfl
  rds_below := by rintro w w' cs d ⟨v2, rfl, h⟩ hb; exact ⟨v2, rfl, rdsL.below h hb⟩
  own_keep := by rintro S w w' cs d ⟨v2, rfl, h⟩ hk; exact ⟨v2, rfl, ownL.keep h hk⟩
  own_mono := by rintro S T w cs d ⟨v2, rfl, h⟩ hk; exact ⟨v2, rfl, ownL.mono h hk⟩
  own_rds := by rintro S w cs d ⟨v2, rfl, h⟩; exact ⟨v2, rfl, ownL.rds h⟩
instance encStore : Enc StoreD where
  sz := 2
  ty := 37
  rds w cs s := ∃ v0 v1, cs = [v0, v1] ∧ rdsL w v0 s.heads_ ∧ rdsL w v1 s.descs_
  own S w cs s := ∃ v0 v1, ∃ S0 S1 : Nat → Prop, cs = [v0, v1] ∧ ownL S0 w v0 s.heads_ ∧ ownL S1 w v1 s.descs_ ∧ (∀ k, S0 k → S k) ∧ (∀ k, S1 k → S k) ∧ ∀ k, S0 k → ¬ S1 k
  rds_len := by rintro w cs d ⟨v0, v1, rfl, _⟩; rfl
  rds_below := by rintro w w' cs d ⟨v0, v1, rfl, h0, h1⟩ hb; exact ⟨v0, v1, rfl, rdsL.below h0 hb, rdsL.below h1 hb⟩
  own_keep := by rintro S w w' cs d ⟨v0, v1, S0, S1, rfl, h0, h1, s0, s1, s2⟩ hk; exact ⟨v0, v1, S0, S1, rfl, ownL.keep h0 fun k h => hk k (s0 k h), ownL.keep h1 fun k h => hk k (s1 k h), s0, s1, s2⟩
  own_mono := by rintro S T w cs d ⟨v0, v1, S0, S1, rfl, h0, h1, s0, s1, s2⟩ hk; exact ⟨v0, v1, S0, S1, rfl, h0, h1, fun k h => hk k (s0 k h), fun k h => hk k (s1 k h), s2⟩
  own_rds := by rintro S w cs d ⟨v0, v1, S0, S1, rfl, h0, h1, _⟩; exact ⟨v0, v1, rfl, ownL.rds h0, ownL.rds h1⟩
theorem rdsEntrys {w : World} {v : Value} {xs : List Entry} : rdsL w v xs ↔ Entrys w v xs := rds_flat
theorem rdsHeads {w : World} {v : Value} {xs : List Head} : rdsL w v xs ↔ Heads w v xs := rds_flat
theorem ownEntrys {S : Nat → Prop} {w : World} {v : Value} {xs : List Entry} : ownL S w v xs ↔ w.ownsRow 0 121 5 v xs.length (xs.flatMap Entry.enc) ∧ ∀ k, Blk v k → S k := own_flat
theorem ownHeads {S : Nat → Prop} {w : World} {v : Value} {xs : List Head} : ownL S w v xs ↔ w.ownsRow 0 55 3 v xs.length (xs.flatMap Head.enc) ∧ ∀ k, Blk v k → S k := own_flat
/-- A row that a call has made, as a datum of its own. -/
theorem ownE_of {w w' : World} {u : Value} {xs : List Entry} (o : w'.ownsRow w.heap.size 121 5 u xs.length (xs.flatMap Entry.enc)) : ownL (Rg w.heap.size w'.heap.size) w' u xs := ownEntrys.2 ⟨owns_base o (fun _ _ => Nat.zero_le _), fun k hk => owns_in o k hk⟩
theorem ownH_of {w w' : World} {u : Value} {xs : List Head} (o : w'.ownsRow w.heap.size 55 3 u xs.length (xs.flatMap Head.enc)) : ownL (Rg w.heap.size w'.heap.size) w' u xs := ownHeads.2 ⟨owns_base o (fun _ _ => Nat.zero_le _), fun k hk => owns_in o k hk⟩
theorem toDesc_v (d : DescD) (v2 : Value) (w : World) (h : rdsL w v2 d.entries_) (hx : d.entries_.length ≤ 1048576) :
    Calls Tryz.prog 76 #[.agg #[.int .i64 d.owner_, .int .i64 d.status_, v2]] w fun e w' => ∃ u, e = .returned (.agg #[.int .i64 d.owner_, .int .i64 d.status_, u]) ∧ ownL (Rg w.heap.size w'.heap.size) w' u d.entries_ ∧ Below w.heap.size w w' := by
  refine (toDesc_c d.owner_ d.status_ v2 d.entries_ w hx (rdsEntrys.1 h)).mono ?_
  rintro e w' ⟨u, rfl, o, b⟩
  exact ⟨u, rfl, ownE_of o, b⟩
theorem infoDesc : (Tryz.prog.info? 85).map (fun i => (i.zero, i.size, i.bytes)) = some (some (.agg #[.int .i64 0, .int .i64 0, .slice none 0 0]), 3, 40) := by kernel_rfl
set_option maxHeartbeats 2000000 in
theorem toDescS_v (v : Value) (xs : List DescD) (w : World) (hx : xs.length ≤ 1048576) (hxs : ∀ i, (h : i < xs.length) → xs[i].entries_.length ≤ 1048576) (h : rdsL w v xs) :
    Calls Tryz.prog 43 #[v] w fun e w' => ∃ u, e = .returned u ∧ ownL (Rg w.heap.size w'.heap.size) w' u xs ∧ Below w.heap.size w w' := by
  obtain ⟨ad, cap, rfl, hl, hm, hc⟩ := rdsL_open h
  clear h
  have HC := hid hc
  have Hxs := hid hxs
  clear hc hxs
  have hlen : xs.length ≤ 9223372036854775807 := by omega
  obtain ⟨i0, hi, hz0, hz1, hz2⟩ := info_parts infoDesc
  go_enter Tryz.func43, Tryz.ntmps43
  go_wp2_with (at_make; refine wpList_make_full _ rfl _ _ 35 rfl (w.heap.size) 85 i0 (.agg #[.int .i64 0, .int .i64 0, .slice none 0 0]) 3 Tryz.underlying35 hi hz0 hz1 _ _ _ _ xs.length rfl rfl rfl rfl (by rw [hz2]; omega) (by unfold maxLen; omega) (Nat.le_refl _) ?_)
  intro w1 hown hgrow
  have hB := (Below.refl w.heap.size w).grown hgrow (Nat.le_refl _) (by simp)
  have hz1' := hB.size
  obtain ⟨css, hF⟩ := FillL.begin (A := encDesc) (base := w.heap.size) (lo := w.heap.size + 1) (mid := w1.heap.size) (xs := xs) hown (fun b hb => by have e : w.heap.size = b := Option.some.inj hb; omega) (Nat.le_refl _)
  have hmid : w.heap.size + 1 ≤ w1.heap.size := (owns_lt hown).2
  clear hown hgrow
  go_wp2
  go_loopw [4] (fun i wr => ∃ (k mid : Nat) (css : List (List Value)), k ≤ xs.length ∧ i = .int .i64 k ∧ FillL (A := encDesc) w.heap.size (w.heap.size + 1) mid wr (.slice (some ⟨w.heap.size, 0, none⟩) xs.length xs.length) xs css k ∧ w.heap.size + 1 ≤ mid ∧ Below w.heap.size w wr) (fun i _ => xs.length - (intOf i).toNat)
  case atStart => exact ⟨0, w1.heap.size, css, by omega, rfl, hF, hmid, hB⟩
  case round =>
    clear hF hB hmid hz1'
    obtain ⟨k, mid, css, hk, rfl, hF, hmid, hB⟩ := hrel
    by_cases hlt : k < xs.length
    · obtain ⟨bb, off, cs, rfl, hbs, ⟨v2, rfl, h2⟩, hcell⟩ := HC.out k hlt
      have c0 : w.cell? ⟨bb, off + k * 3, none⟩ = some (.int .i64 xs[k].owner_) := hcell 0 (show 0 < 3 by omega)
      have c1 : w.cell? ⟨bb, off + k * 3 + 1, none⟩ = some (.int .i64 xs[k].status_) := hcell 1 (show 1 < 3 by omega)
      have c2 : w.cell? ⟨bb, off + k * 3 + 2, none⟩ = some v2 := hcell 2 (show 2 < 3 by omega)
      have e0 := (hB.cell (p := ⟨bb, off + k * 3, none⟩) hbs).trans c0
      have e1 := (hB.cell (p := ⟨bb, off + k * 3 + 1, none⟩) hbs).trans c1
      have e2 := (hB.cell (p := ⟨bb, off + k * 3 + 2, none⟩) hbs).trans c2
      have hR := hid (rdsL.below h2 hB)
      have hHF := hid hF
      have hml := hid hmid
      clear c0 c1 c2 hcell HC hF hmid h2
      go_wp2_with fail
      refine (toDesc_v xs[k] v2 _ hR.out (Hxs.out k hlt)).mono ?_
      rintro e w2 ⟨u, rfl, o2, b2⟩
      obtain ⟨ua, um, uc, rfl⟩ := owns_form3 (ownEntrys.1 o2).1
      have hB2 := hB.trans (b2.mono hB.size)
      have hF2 := hid (hHF.out.below b2)
      obtain ⟨⟨y0, d0⟩, f0⟩ := hF2.out.cell k 0 hlt (show 0 < 3 by omega)
      obtain ⟨⟨y1, d1⟩, f1⟩ := hF2.out.cell k 1 hlt (show 1 < 3 by omega)
      obtain ⟨⟨y2, d2⟩, f2⟩ := hF2.out.cell k 2 hlt (show 2 < 3 by omega)
      change w2.cell? ⟨w.heap.size, k * 3, none⟩ = some y0 at d0
      change w2.cell? ⟨w.heap.size, k * 3 + 1, none⟩ = some y1 at d1
      change w2.cell? ⟨w.heap.size, k * 3 + 2, none⟩ = some y2 at d2
      change w2.frozen? ⟨w.heap.size, k * 3, none⟩ = false at f0
      change w2.frozen? ⟨w.heap.size, k * 3 + 1, none⟩ = false at f1
      change w2.frozen? ⟨w.heap.size, k * 3 + 2, none⟩ = false at f2
      have hsz : w.heap.size ≤ w2.heap.size := hB2.size
      obtain ⟨W9, hW9⟩ : ∃ X, ((w2.setCell ⟨w.heap.size, k * 3, none⟩ (.int .i64 xs[k].owner_)).setCell ⟨w.heap.size, k * 3 + 1, none⟩ (.int .i64 xs[k].status_)).setCell ⟨w.heap.size, k * 3 + 2, none⟩ (Value.slice ua um uc) = X := ⟨_, rfl⟩
      have hF3 : FillL (A := encDesc) w.heap.size (w.heap.size + 1) mid W9 (.slice (some ⟨w.heap.size, 0, none⟩) xs.length xs.length) xs (css.set k [Value.int .i64 xs[k].owner_, Value.int .i64 xs[k].status_, (Value.slice ua um uc)]) k := by
        rw [← hW9]; exact hF2.out.putAll k (Nat.le_refl _) hlt [Value.int .i64 xs[k].owner_, Value.int .i64 xs[k].status_, (Value.slice ua um uc)] rfl
      have hB9 : Below w.heap.size w W9 := by
        rw [← hW9]; exact ((hB2.setCell (Nat.le_refl _) _).setCell (Nat.le_refl _) _).setCell (Nat.le_refl _) _
      have hs9 : W9.heap.size = w2.heap.size := by rw [← hW9]; simp [World.setCell]
      have ho9 : ownL (Rg wr.heap.size w2.heap.size) W9 (Value.slice ua um uc) xs[k].entries_ := ownL.keep o2 fun q hq => by
        rw [← hW9]
        have hm1 := hml.out
        have hm2 : mid ≤ wr.heap.size := hHF.out.2.2.2.2.1
        have hne : q ≠ w.heap.size := by have := hq.1; omega
        rw [heap_setCell_other _ _ q _ hne, heap_setCell_other _ _ q _ hne, heap_setCell_other _ _ q _ hne]
      have hlc : k < (css.set k [Value.int .i64 xs[k].owner_, Value.int .i64 xs[k].status_, (Value.slice ua um uc)]).length := by rw [hF3.len]; exact hlt
      have hF4 := hid (hF3.next hlc hlt (a := wr.heap.size) (b := w2.heap.size) (hHF.out.2.2.2.2.1) (by have := hml.out; have : mid ≤ wr.heap.size := hHF.out.2.2.2.2.1; omega) b2.size (by omega) (by rw [List.getElem_set_self]; exact ⟨_, rfl, ho9⟩))
      have hm4 := hid (show w.heap.size + 1 ≤ w2.heap.size by have h1 := hml.out; have h2 : mid ≤ wr.heap.size := hHF.out.2.2.2.2.1; have h3 := b2.size; omega)
      have HW := hid hW9
      have HB9 := hid hB9
      clear hW9 hF3 hB9 ho9 hlc hHF hml hF2 o2 hR e0 e1 e2
      go_wp2
      rw [HW.out]
      go_roundw
      case rel => exact ⟨k+1, w2.heap.size, _, by omega, by go_num, hF4.out, hm4.out, HB9.out⟩
      case measure => simp [intOf]; omega
    · obtain rfl : k = xs.length := by omega
      have hD := hid (hF.done (Nat.le_add_right _ 1))
      clear hF HC
      go_wp2
      go_ret
      exact ⟨_, rfl, hD.out, hB⟩
theorem eqDesc_v (d : DescD) (v2 u2 : Value) (w : World) (h : rdsL w v2 d.entries_) (g : rdsL w u2 d.entries_) :
    Calls Tryz.prog 93 #[.agg #[.int .i64 d.owner_, .int .i64 d.status_, v2], .agg #[.int .i64 d.owner_, .int .i64 d.status_, u2]] w fun e w' => e = .returned (.bool true) ∧ Below w.heap.size w w' :=
  eqDesc_c d.owner_ d.status_ v2 u2 d.entries_ w (rdsEntrys.1 h) (rdsEntrys.1 g)
set_option maxHeartbeats 2000000 in
theorem eqDescS_v (v u : Value) (xs : List DescD) (w : World) (h : rdsL w v xs) (g : rdsL w u xs) :
    Calls Tryz.prog 54 #[v, u] w fun e w' => e = .returned (.bool true) ∧ Below w.heap.size w w' := by
  obtain ⟨ad, cap, rfl, hl, hm, hc⟩ := rdsL_open h
  obtain ⟨ad2, cap2, rfl, hl2, hm2, hc2⟩ := rdsL_open g
  clear h g
  have HC := hid hc
  have GC := hid hc2
  clear hc hc2
  have hlen : xs.length ≤ 9223372036854775807 := by omega
  go_enter Tryz.func54, Tryz.ntmps54
  go_wp2
  go_loopw [5] (fun i wr => ∃ k : Nat, k ≤ xs.length ∧ i = .int .i64 k ∧ Below w.heap.size w wr) (fun i _ => xs.length - (intOf i).toNat)
  case atStart => exact ⟨0, by omega, rfl, Below.refl _ _⟩
  case round =>
    obtain ⟨k, hk, rfl, hB⟩ := hrel
    by_cases hlt : k < xs.length
    · obtain ⟨bb, off, cs, rfl, hbs, ⟨v2, rfl, h2⟩, hcell⟩ := HC.out k hlt
      obtain ⟨bb2, off2, cs2, rfl, hbs2, ⟨u2, rfl, g2⟩, hcell2⟩ := GC.out k hlt
      have c0 : w.cell? ⟨bb, off + k * 3, none⟩ = some (.int .i64 xs[k].owner_) := hcell 0 (show 0 < 3 by omega)
      have c1 : w.cell? ⟨bb, off + k * 3 + 1, none⟩ = some (.int .i64 xs[k].status_) := hcell 1 (show 1 < 3 by omega)
      have c2 : w.cell? ⟨bb, off + k * 3 + 2, none⟩ = some v2 := hcell 2 (show 2 < 3 by omega)
      have d0 : w.cell? ⟨bb2, off2 + k * 3, none⟩ = some (.int .i64 xs[k].owner_) := hcell2 0 (show 0 < 3 by omega)
      have d1 : w.cell? ⟨bb2, off2 + k * 3 + 1, none⟩ = some (.int .i64 xs[k].status_) := hcell2 1 (show 1 < 3 by omega)
      have d2 : w.cell? ⟨bb2, off2 + k * 3 + 2, none⟩ = some u2 := hcell2 2 (show 2 < 3 by omega)
      have e0 := (hB.cell (p := ⟨bb, off + k * 3, none⟩) hbs).trans c0
      have e1 := (hB.cell (p := ⟨bb, off + k * 3 + 1, none⟩) hbs).trans c1
      have e2 := (hB.cell (p := ⟨bb, off + k * 3 + 2, none⟩) hbs).trans c2
      have g0 := (hB.cell (p := ⟨bb2, off2 + k * 3, none⟩) hbs2).trans d0
      have g1 := (hB.cell (p := ⟨bb2, off2 + k * 3 + 1, none⟩) hbs2).trans d1
      have g3 := (hB.cell (p := ⟨bb2, off2 + k * 3 + 2, none⟩) hbs2).trans d2
      have hR := hid (rdsL.below h2 hB)
      have hR2 := hid (rdsL.below g2 hB)
      clear c0 c1 c2 d0 d1 d2 hcell hcell2 HC GC h2 g2
      go_wp2
      go_still_tail 8, (by kernel_rfl)
      go_wp2_with fail
      refine (eqDesc_v xs[k] v2 u2 _ (rdsL.below hR.out (Below.refl _ _).drew) (rdsL.below hR2.out (Below.refl _ _).drew)).mono ?_
      rintro e w1 ⟨rfl, hB1⟩
      have hB3 := hid (show Below w.heap.size w w1 from hB.drew.trans (hB1.mono (by have := hB.size; simp; omega)))
      clear hR hR2 e0 e1 e2 g0 g1 g3
      go_wp2
      go_roundw
      case rel => exact ⟨k+1, by omega, by go_num, hB3.out⟩
      case measure => simp [intOf]; omega
    · go_wp2
      go_ret
      exact ⟨rfl, hB⟩
end Go.Proofs.YtbbdchlabdilcabGreat
