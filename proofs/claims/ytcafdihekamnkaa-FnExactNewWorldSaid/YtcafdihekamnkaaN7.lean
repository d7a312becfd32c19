/- Chapter 7's data in memory: descriptors, stores; the laws' own copies of them. -/
import Derived.Test.YtcafdihekamnkaaTypes6
import Derived.Test.YtcafdihekamnkaaBase2
import Derived.Test.YtcafdihekamnkaaEnc2
import Derived.Test.YtcafdihekamnkaaTypes7
import Derived.StillTailTactics
namespace Go.Proofs.Ytcafdihekamnkaa
set_option maxRecDepth 100000
open Go.RowKit Go.Proofs Go.Own
set_option linter.unusedSimpArgs false
set_option linter.unusedVariables false


set_option maxHeartbeats 1000000 in
theorem eqDesc_c (s0 : Int) (s1 : Int) (v2 u2 : Value) (x2 : List Entry) (w : World) (h2 : Entrys w v2 x2) (g2 : Entrys w u2 x2) :
    Calls Try.prog 62 #[.agg #[.int .i64 s0, .int .i64 s1, v2], .agg #[.int .i64 s0, .int .i64 s1, u2]] w fun e w' => e = .returned (.bool true) ∧ Below w.heap.size w w' := by
  obtain ⟨a2, cap2, rfl, hl2, hm2⟩ := h2.form
  obtain ⟨ua2, uc2, rfl, ul2, um2⟩ := g2.form
  go_enter Try.func62, Try.ntmps62
  go_wp2_with fail
  refine (eqEntryS_c _ _ x2 _ (Flat.below h2 (by repeat (first | exact Below.refl _ _ | refine below_drewN ?_ _ | refine Below.alloc ?_ (by simp; try omega) _))) (Flat.below g2 (by repeat (first | exact Below.refl _ _ | refine below_drewN ?_ _ | refine Below.alloc ?_ (by simp; try omega) _)))).mono ?_
  rintro e w2 ⟨rfl, b⟩
  have hB_w2 : Below w.heap.size w w2 := Below.trans (by repeat (first | exact Below.refl _ _ | refine below_drewN ?_ _ | refine Below.alloc ?_ (by simp; try omega) _)) (b.mono (by simp; try omega))
  clear b
  go_wp2
  go_ret
  exact ⟨rfl, hB_w2⟩




end Go.Proofs.Ytcafdihekamnkaa
namespace Go.Proofs.Ytcafdihekamnkaa
set_option maxRecDepth 100000
open Go.RowKit Go.Proofs Go.Own
set_option linter.unusedVariables false
set_option linter.unusedSimpArgs false
instance encEntry : FlatEnc Entry := flatEnc Entry.enc 5 102 (fun _ => rfl)
instance encHead : FlatEnc Head := flatEnc Head.enc 3 69 (fun _ => rfl)
instance encFrame : FlatEnc Frame := flatEnc Frame.enc 3 93 (fun _ => rfl)
structure DescD where
  owner_ : Int
  status_ : Int
  entries_ : List Entry
structure StoreD where
  heads_ : List Head
  descs_ : List DescD
instance encDesc : Enc DescD where
  sz := 3
  ty := 97
  rds w cs d := ∃ v2, cs = [Value.int .i64 d.owner_, Value.int .i64 d.status_, v2] ∧ rdsL w v2 d.entries_
  own S w cs d := ∃ v2, cs = [Value.int .i64 d.owner_, Value.int .i64 d.status_, v2] ∧ ownL S w v2 d.entries_
  rds_len := by rintro w cs d ⟨v2, rfl, _⟩; rfl
  rds_below := by rintro w w' cs d ⟨v2, rfl, h⟩ hb; exact ⟨v2, rfl, rdsL.below h hb⟩
  own_keep := by rintro S w w' cs d ⟨v2, rfl, h⟩ hk; exact ⟨v2, rfl, ownL.keep h hk⟩
  own_mono := by rintro S T w cs d ⟨v2, rfl, h⟩ hk; exact ⟨v2, rfl, ownL.mono h hk⟩
  own_rds := by rintro S w cs d ⟨v2, rfl, h⟩; exact ⟨v2, rfl, ownL.rds h⟩
instance encStore : Enc StoreD where
  sz := 2
  ty := 28
  rds w cs s := ∃ v0 v1, cs = [v0, v1] ∧ rdsL w v0 s.heads_ ∧ rdsL w v1 s.descs_
  own S w cs s := ∃ v0 v1, ∃ S0 S1 : Nat → Prop, cs = [v0, v1] ∧ ownL S0 w v0 s.heads_ ∧ ownL S1 w v1 s.descs_ ∧ (∀ k, S0 k → S k) ∧ (∀ k, S1 k → S k) ∧ ∀ k, S0 k → ¬ S1 k
  rds_len := by rintro w cs d ⟨v0, v1, rfl, _⟩; rfl
  rds_below := by rintro w w' cs d ⟨v0, v1, rfl, h0, h1⟩ hb; exact ⟨v0, v1, rfl, rdsL.below h0 hb, rdsL.below h1 hb⟩
  own_keep := by rintro S w w' cs d ⟨v0, v1, S0, S1, rfl, h0, h1, s0, s1, s2⟩ hk; exact ⟨v0, v1, S0, S1, rfl, ownL.keep h0 fun k h => hk k (s0 k h), ownL.keep h1 fun k h => hk k (s1 k h), s0, s1, s2⟩
  own_mono := by rintro S T w cs d ⟨v0, v1, S0, S1, rfl, h0, h1, s0, s1, s2⟩ hk; exact ⟨v0, v1, S0, S1, rfl, h0, h1, fun k h => hk k (s0 k h), fun k h => hk k (s1 k h), s2⟩
  own_rds := by rintro S w cs d ⟨v0, v1, S0, S1, rfl, h0, h1, _⟩; exact ⟨v0, v1, rfl, ownL.rds h0, ownL.rds h1⟩
theorem rdsEntrys {w : World} {v : Value} {xs : List Entry} : rdsL w v xs ↔ Entrys w v xs := rds_flat
theorem rdsHeads {w : World} {v : Value} {xs : List Head} : rdsL w v xs ↔ Heads w v xs := rds_flat
theorem ownEntrys {S : Nat → Prop} {w : World} {v : Value} {xs : List Entry} : ownL S w v xs ↔ w.ownsRow 0 102 5 v xs.length (xs.flatMap Entry.enc) ∧ ∀ k, Blk v k → S k := own_flat
theorem ownHeads {S : Nat → Prop} {w : World} {v : Value} {xs : List Head} : ownL S w v xs ↔ w.ownsRow 0 69 3 v xs.length (xs.flatMap Head.enc) ∧ ∀ k, Blk v k → S k := own_flat
/-- A row that a call has made, as a datum of its own. -/
theorem ownE_of {w w' : World} {u : Value} {xs : List Entry} (o : w'.ownsRow w.heap.size 102 5 u xs.length (xs.flatMap Entry.enc)) : ownL (Rg w.heap.size w'.heap.size) w' u xs := ownEntrys.2 ⟨owns_base o (fun _ _ => Nat.zero_le _), fun k hk => owns_in o k hk⟩
theorem ownH_of {w w' : World} {u : Value} {xs : List Head} (o : w'.ownsRow w.heap.size 69 3 u xs.length (xs.flatMap Head.enc)) : ownL (Rg w.heap.size w'.heap.size) w' u xs := ownHeads.2 ⟨owns_base o (fun _ _ => Nat.zero_le _), fun k hk => owns_in o k hk⟩
theorem infoDesc : (Try.prog.info? 97).map (fun i => (i.zero, i.size, i.bytes)) = some (some (.agg #[.int .i64 0, .int .i64 0, .slice none 0 0]), 3, 40) := by kernel_rfl
theorem eqDesc_v (d : DescD) (v2 u2 : Value) (w : World) (h : rdsL w v2 d.entries_) (g : rdsL w u2 d.entries_) :
    Calls Try.prog 62 #[.agg #[.int .i64 d.owner_, .int .i64 d.status_, v2], .agg #[.int .i64 d.owner_, .int .i64 d.status_, u2]] w fun e w' => e = .returned (.bool true) ∧ Below w.heap.size w w' :=
  eqDesc_c d.owner_ d.status_ v2 u2 d.entries_ w (rdsEntrys.1 h) (rdsEntrys.1 g)
set_option maxHeartbeats 2000000 in
theorem eqDescS_v (v u : Value) (xs : List DescD) (w : World) (h : rdsL w v xs) (g : rdsL w u xs) :
    Calls Try.prog 44 #[v, u] w fun e w' => e = .returned (.bool true) ∧ Below w.heap.size w w' := by
  obtain ⟨ad, cap, rfl, hl, hm, hc⟩ := rdsL_open h
  obtain ⟨ad2, cap2, rfl, hl2, hm2, hc2⟩ := rdsL_open g
  clear h g
  have HC := hid hc
  have GC := hid hc2
  clear hc hc2
  have hlen : xs.length ≤ 9223372036854775807 := by omega
  go_enter Try.func44, Try.ntmps44
  go_wp2
  go_loopw [5] (fun i wr => ∃ k : Nat, k ≤ xs.length ∧ i = .int .i64 k ∧ Below w.heap.size w wr) (fun i _ => xs.length - (intOf i).toNat)
  case atStart => exact ⟨0, by omega, rfl, Below.refl _ _⟩
  case round =>
    obtain ⟨k, hk, rfl, hB⟩ := hrel
    by_cases hlt : k < xs.length
    · obtain ⟨bb, off, cs, rfl, hbs, ⟨v2, rfl, h2⟩, hcell⟩ := HC.out k hlt
      obtain ⟨bb2, off2, cs2, rfl, hbs2, ⟨u2, rfl, g2⟩, hcell2⟩ := GC.out k hlt
      have c0 : w.cell? ⟨bb, off + k * 3, none⟩ = some (.int .i64 xs[k].owner_) := hcell 0 (show 0 < 3 by omega)
      have c1 : w.cell? ⟨bb, off + k * 3 + 1, none⟩ = some (.int .i64 xs[k].status_) := hcell 1 (show 1 < 3 by omega)
      have c2 : w.cell? ⟨bb, off + k * 3 + 2, none⟩ = some v2 := hcell 2 (show 2 < 3 by omega)
      have d0 : w.cell? ⟨bb2, off2 + k * 3, none⟩ = some (.int .i64 xs[k].owner_) := hcell2 0 (show 0 < 3 by omega)
      have d1 : w.cell? ⟨bb2, off2 + k * 3 + 1, none⟩ = some (.int .i64 xs[k].status_) := hcell2 1 (show 1 < 3 by omega)
      have d2 : w.cell? ⟨bb2, off2 + k * 3 + 2, none⟩ = some u2 := hcell2 2 (show 2 < 3 by omega)
      have e0 := (hB.cell (p := ⟨bb, off + k * 3, none⟩) hbs).trans c0
      have e1 := (hB.cell (p := ⟨bb, off + k * 3 + 1, none⟩) hbs).trans c1
      have e2 := (hB.cell (p := ⟨bb, off + k * 3 + 2, none⟩) hbs).trans c2
      have g0 := (hB.cell (p := ⟨bb2, off2 + k * 3, none⟩) hbs2).trans d0
      have g1 := (hB.cell (p := ⟨bb2, off2 + k * 3 + 1, none⟩) hbs2).trans d1
      have g3 := (hB.cell (p := ⟨bb2, off2 + k * 3 + 2, none⟩) hbs2).trans d2
      have hR := hid (rdsL.below h2 hB)
      have hR2 := hid (rdsL.below g2 hB)
      clear c0 c1 c2 d0 d1 d2 hcell hcell2 HC GC h2 g2
      go_wp2
      go_still_tail 8, (by kernel_rfl)
      go_wp2_with fail
      refine (eqDesc_v xs[k] v2 u2 _ (rdsL.below hR.out (Below.refl _ _).drew) (rdsL.below hR2.out (Below.refl _ _).drew)).mono ?_
      rintro e w1 ⟨rfl, hB1⟩
      have hB3 := hid (show Below w.heap.size w w1 from hB.drew.trans (hB1.mono (by have := hB.size; simp; omega)))
      clear hR hR2 e0 e1 e2 g0 g1 g3
      go_wp2
      go_roundw
      case rel => exact ⟨k+1, by omega, by go_num, hB3.out⟩
      case measure => simp [intOf]; omega
    · go_wp2
      go_ret
      exact ⟨rfl, hB⟩
end Go.Proofs.Ytcafdihekamnkaa
