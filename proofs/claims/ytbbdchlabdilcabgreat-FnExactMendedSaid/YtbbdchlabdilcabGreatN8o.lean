/- Lists of flat data in memory: what the laws' helpers do, in the one form that the laws' walks take (lawgen3.py). -/
import Derived.Test.YtbbdchlabdilcabGreatProg
import Derived.Test.YtbbdchlabdilcabGreatTypes7
import Derived.Test.YtbbdchlabdilcabGreatN7o
namespace Go.Proofs.YtbbdchlabdilcabGreat
set_option maxRecDepth 100000
open Go.RowKit Go.Proofs Go.Own
set_option maxRecDepth 100000

theorem infoFrame : (Tryz.prog.info? 91).map (fun i => (i.zero, i.size, i.bytes)) = some (some (.agg #[.int .i64 0, .int .i64 0, .int .i64 0]), 3, 24) := by kernel_rfl

theorem toFrameS_c (v : Value) (xs : List Frame) (w : World) (hx : xs.length ≤ 1048576) (h : Frames w v xs) :
    Calls Tryz.prog 80 #[v] w fun e w' => ∃ v', e = .returned v' ∧ w'.ownsRow w.heap.size 91 3 v' xs.length (xs.flatMap Frame.enc) ∧ Below w.heap.size w w' := by
  obtain ⟨ad, cap, rfl, hl, hm, hc⟩ := h.open
  clear h
  have hlen : xs.length ≤ 9223372036854775807 := by omega
  obtain ⟨i0, hi, hz0, hz1, hz2⟩ := info_parts infoFrame
  have hL : (xs.flatMap Frame.enc).length = xs.length * 3 := flatMap_len _ 3 (fun _ => rfl) xs
  have hlk : ∀ k, (hk : k < xs.length) → ∀ j, j < 3 → (xs.flatMap Frame.enc)[k * 3 + j]? = (Frame.enc xs[k])[j]? := fun k hk j hj => flatMap_get Frame.enc 3 (fun _ => rfl) xs k hk j hj
  generalize xs.flatMap Frame.enc = L at *
  have HL := hid hL
  clear hL
  go_enter Tryz.func80, Tryz.ntmps80
  go_wp2_with (at_make; refine wpList_make_full _ rfl _ _ 80 rfl (w.heap.size) 91 i0 (.agg #[.int .i64 0, .int .i64 0, .int .i64 0]) 3 Tryz.underlying80 hi hz0 hz1 _ _ _ _ xs.length rfl rfl rfl rfl (by rw [hz2]; omega) (by unfold maxLen; omega) (Nat.le_refl _) ?_)
  intro w1 hown hgrow
  have hB := (Below.refl w.heap.size w).grown hgrow (Nat.le_refl _) (by simp)
  have hF := Fills.start (l := L) hown HL.out
  clear hown hgrow
  go_wp2
  go_loopw [4] (fun i wr => ∃ k : Nat, k ≤ xs.length ∧ i = .int .i64 k ∧ Fills wr w.heap.size 91 3 (.slice (some ⟨w.heap.size, 0, none⟩) xs.length xs.length) xs.length L (k * 3) ∧ Below w.heap.size w wr) (fun i _ => xs.length - (intOf i).toNat)
  case atStart => exact ⟨0, by omega, rfl, by rw [Nat.zero_mul]; exact hF, hB⟩
  case round =>
    clear hF hB
    obtain ⟨k, hk, rfl, hF, hB⟩ := hrel
    by_cases hlt : k < xs.length
    · obtain ⟨bb, off, rfl, hbs, c0, c1, c2⟩ := hc k hlt
      have e0 : wr.cell? ⟨bb, off + k * 3, none⟩ = some (.int .i64 xs[k].desc_) := by rw [hB.cell (p := ⟨bb, off + k * 3, none⟩) hbs]; exact c0
      have e1 : wr.cell? ⟨bb, off + k * 3 + 1, none⟩ = some (.int .i64 xs[k].phase_) := by rw [hB.cell (p := ⟨bb, off + k * 3 + 1, none⟩) hbs]; exact c1
      have e2 : wr.cell? ⟨bb, off + k * 3 + 2, none⟩ = some (.int .i64 xs[k].at_) := by rw [hB.cell (p := ⟨bb, off + k * 3 + 2, none⟩) hbs]; exact c2
      obtain ⟨g, hg, hbg, hgs, hcells⟩ := hF.at HL.out (by rw [HL.out]; omega)
      obtain rfl := (Addr.mk.inj (Option.some.inj hg)).1
      go_wp2_with fail
      refine (toFrame_c xs[k] _).mono ?_
      rintro e w2 ⟨rfl, hB1⟩
      have hB2 := hB.trans (hB1.mono (by have := hB.size; omega))
      have hF1 := hF.below hB1
      obtain ⟨g2, hg2, hbg2, hgs2, hcells2⟩ := hF1.at HL.out (by rw [HL.out]; omega)
      obtain rfl := (Addr.mk.inj (Option.some.inj hg2)).1
      obtain ⟨⟨u0, hu0⟩, hf0⟩ := hcells2 (k * 3) (by rw [HL.out]; omega)
      obtain ⟨⟨u1, hu1⟩, hf1⟩ := hcells2 (k * 3 + 1) (by rw [HL.out]; omega)
      obtain ⟨⟨u2, hu2⟩, hf2⟩ := hcells2 (k * 3 + 2) (by rw [HL.out]; omega)
      have l0 : L[k * 3]? = some (.int .i64 xs[k].desc_) := hlk k hlt 0 (by omega)
      have l1 : L[k * 3 + 1]? = some (.int .i64 xs[k].phase_) := hlk k hlt 1 (by omega)
      have l2 : L[k * 3 + 2]? = some (.int .i64 xs[k].at_) := hlk k hlt 2 (by omega)
      have s0 := (hF1.store _ l0).1
      have s1 := (s0.store _ l1).1
      have s2 := (s1.store _ l2).1
      have hB3 := (((hB2.setCell (p := ⟨w.heap.size, k * 3, none⟩) (Nat.le_refl _) (.int .i64 xs[k].desc_)).setCell (p := ⟨w.heap.size, k * 3 + 1, none⟩) (Nat.le_refl _) (.int .i64 xs[k].phase_)).setCell (p := ⟨w.heap.size, k * 3 + 2, none⟩) (Nat.le_refl _) (.int .i64 xs[k].at_))
      clear hc hcells hF hg hg2 hcells2 hF1 c0 c1 c2 e0 e1 e2 l0 l1 l2 hB1 hB2
      unfold Frame.val
      go_wp2
      go_roundw
      case rel => exact ⟨k+1, by omega, by go_num, by rw [Nat.add_mul]; exact s2, hB3⟩
      case measure => simp [intOf]; omega
    · go_wp2
      go_ret
      exact ⟨_, rfl, hF.done (by rw [HL.out]; omega), hB⟩

theorem eqFrameS_c (v u : Value) (xs : List Frame) (w : World) (h : Frames w v xs) (g : Frames w u xs) :
    Calls Tryz.prog 97 #[v, u] w fun e w' => e = .returned (.bool true) ∧ Below w.heap.size w w' := by
  obtain ⟨ad, cap, rfl, hl, hm, hc⟩ := h.open
  obtain ⟨ad2, cap2, rfl, hl2, hm2, hc2⟩ := g.open
  clear h g
  have hlen : xs.length ≤ 9223372036854775807 := by omega
  go_enter Tryz.func97, Tryz.ntmps97
  go_wp2
  go_loopw [5] (fun i wr => ∃ k : Nat, k ≤ xs.length ∧ i = .int .i64 k ∧ Below w.heap.size w wr) (fun i _ => xs.length - (intOf i).toNat)
  case atStart => exact ⟨0, by omega, rfl, Below.refl _ _⟩
  case round =>
    obtain ⟨k, hk, rfl, hB⟩ := hrel
    by_cases hlt : k < xs.length
    · obtain ⟨bb, off, rfl, hbs, c0, c1, c2⟩ := hc k hlt
      obtain ⟨bb2, off2, rfl, hbs2, d0, d1, d2⟩ := hc2 k hlt
      have kc : ∀ o, wr.cell? ⟨bb, o, none⟩ = w.cell? ⟨bb, o, none⟩ := fun o => hB.cell (p := ⟨bb, o, none⟩) hbs
      have kd : ∀ o, wr.cell? ⟨bb2, o, none⟩ = w.cell? ⟨bb2, o, none⟩ := fun o => hB.cell (p := ⟨bb2, o, none⟩) hbs2
      rw [← kc] at c0 c1 c2
      rw [← kd] at d0 d1 d2
      clear hc hc2 kc kd
      go_wp2
      go_still_tail 8, (by kernel_rfl)
      go_wp2_with fail
      refine (eqFrame_c xs[k] _).mono ?_
      rintro e w1 ⟨rfl, hB1⟩
      go_wp2
      go_roundw
      case rel => exact ⟨k+1, by omega, by go_num, hB.drew.trans (hB1.mono (by have := hB.size; simp; omega))⟩
      case measure => simp [intOf]; omega
    · go_wp2
      go_ret
      exact ⟨rfl, hB⟩

theorem markFrameS_c (base e : Nat) (v : Value) (n : Nat) (cs : List Value) (k : Int) (w : World) (hn : n ≤ 1099511627776) (h0 : 0 ≤ k) (h1 : k ≤ 1125899906842624) (h : w.ownsRow base e 3 v n cs) :
    Calls Tryz.prog 61 #[v, .int .i64 k] w fun r w' => r = .returned (.int .i64 (k + 3 * n)) ∧ w'.ownsRow base e 3 v n (markV markI (n * 3) k) ∧ w.grownBy w' v.ownBlock := by
  obtain ⟨a, cap, rfl, hl, hm⟩ := owns_form h
  have hF := Fills.start (l := markV markI (n * 3) k) h (by rw [markV_length])
  clear h
  go_enter Tryz.func61, Tryz.ntmps61
  go_wp2
  go_loopw [1, 5] (fun kk i wr => ∃ j : Nat, j ≤ n ∧ i = .int .i64 j ∧ kk = .int .i64 (k + 3 * j) ∧ Fills wr base e 3 (.slice a n cap) n (markV markI (n * 3) k) (j * 3) ∧ w.grownBy wr (Value.slice a n cap).ownBlock) (fun _ i _ => n - (intOf i).toNat)
  case atStart => exact ⟨0, by omega, rfl, by simp, by rw [Nat.zero_mul]; exact hF, World.grownBy.refl _ _⟩
  case round =>
    clear hF
    obtain ⟨j, hj, rfl, rfl, hF, hG⟩ := hrel
    by_cases hlt : j < n
    · have hm4 : (markV markI (n * 3) k).length = (n * 3) := markV_length _ _ _
      obtain ⟨g, rfl, hbg, hgs, hcells⟩ := hF.at (by rw [hm4]) (by omega)
      obtain ⟨⟨u0, hu0⟩, hf0⟩ := hcells (j * 3) (by omega)
      obtain ⟨⟨u1, hu1⟩, hf1⟩ := hcells (j * 3 + 1) (by omega)
      obtain ⟨⟨u2, hu2⟩, hf2⟩ := hcells (j * 3 + 2) (by omega)
      have s0 := hF.store (.int .i64 (k + 3 * j)) (by rw [markV_get _ _ _ _ (by omega)]; simp [markI] <;> omega)
      have s1 := s0.1.store (.int .i64 (k + 3 * j + 1)) (by rw [markV_get _ _ _ _ (by omega)]; simp [markI] <;> omega)
      have s2 := s1.1.store (.int .i64 (k + 3 * j + 1 + 1)) (by rw [markV_get _ _ _ _ (by omega)]; simp [markI] <;> omega)
      have hG4 := grownBy_trans hG (grownBy_trans (grownBy_trans s0.2 s1.2) s2.2)
      have hF4 := s2.1
      clear s0 s1 s2 hcells hm4 hF hG
      go_wp2
      go_roundw
      case rel => exact ⟨j+1, by omega, by go_num, by go_num, by rw [Nat.add_mul]; exact hF4, hG4⟩
      case measure => simp [intOf]; omega
    · go_wp2
      go_ret
      exact ⟨ret_int (by omega), hF.done (by rw [markV_length]; omega), hG⟩


theorem szFrameS_c (a : Option Addr) (n cap : Nat) (k : Int) (w : World) (hn : n ≤ 9223372036854775807) (h0 : 0 ≤ k) (h1 : k ≤ 1048576) :
    Calls Tryz.prog 65 #[.slice a n cap, .int .i64 k] w fun e w' => e = .returned (.int .i64 (if k < n then -1 else k - n)) ∧ w = w' := by
  go_enter Tryz.func65, Tryz.ntmps65
  go_wp2
  all_goals go_ret
  all_goals exact ⟨rfl, rfl⟩

theorem infoBool : (Tryz.prog.info? 4).map (fun i => (i.zero, i.size, i.bytes)) = some (some (.bool false), 1, 1) := by kernel_rfl






end Go.Proofs.YtbbdchlabdilcabGreat
namespace Go.Proofs.YtbbdchlabdilcabGreat
set_option maxRecDepth 100000
open Go.RowKit Go.Proofs Go.Own
set_option linter.unusedVariables false
set_option linter.unusedSimpArgs false
theorem rdsFrames {w : World} {v : Value} {xs : List Frame} : rdsL w v xs ↔ Frames w v xs := rds_flat
theorem ownFrames {S : Nat → Prop} {w : World} {v : Value} {xs : List Frame} : ownL S w v xs ↔ w.ownsRow 0 91 3 v xs.length (xs.flatMap Frame.enc) ∧ ∀ k, Blk v k → S k := own_flat
theorem ownFrame_of {w w' : World} {u : Value} {xs : List Frame} (o : w'.ownsRow w.heap.size 91 3 u xs.length (xs.flatMap Frame.enc)) : ownL (Rg w.heap.size w'.heap.size) w' u xs := ownFrames.2 ⟨owns_base o (fun _ _ => Nat.zero_le _), fun k hk => owns_in o k hk⟩
def FrameSB (xs : List Frame) : Prop := xs.length ≤ 1048576
def szFrameSD (xs : List Frame) : Nat := xs.length
def cntFrameS (xs : List Frame) : Nat := 3 * xs.length
def markFramen (k : Int) (i : Nat) : Frame := ⟨k + 3 * i, k + 3 * i + 1, k + 3 * i + 2⟩
def markFrameSD (xs : List Frame) (k : Int) : List Frame := (List.range xs.length).map (markFramen k)
theorem markFrameSD_len (xs : List Frame) (k : Int) : (markFrameSD xs k).length = xs.length := by simp [markFrameSD]
theorem markFrameSD_enc (xs : List Frame) (k : Int) : (markFrameSD xs k).flatMap Frame.enc = markV markI (xs.length * 3) k := by
  apply List.ext_getElem?
  intro t
  have hl : ((markFrameSD xs k).flatMap Frame.enc).length = xs.length * 3 := by rw [flatMap_len Frame.enc 3 (fun _ => rfl), markFrameSD_len]
  by_cases h : t < xs.length * 3
  · have e := flatMap_get Frame.enc 3 (fun _ => rfl) (markFrameSD xs k) (t / 3) (by rw [markFrameSD_len]; omega) (t % 3) (by omega)
    rw [show t / 3 * 3 + t % 3 = t by omega] at e
    rw [e, markV_get _ _ _ _ (by omega)]
    have hm : (markFrameSD xs k)[t / 3]'(by rw [markFrameSD_len]; omega) = markFramen k (t / 3) := by simp [markFrameSD]
    rw [hm]
    have h5 : t % 3 < 3 := by omega
    have hq : (t : Int) = 3 * ((t / 3 : Nat) : Int) + ((t % 3 : Nat) : Int) := by omega
    unfold markI markFramen Frame.enc
    generalize t % 3 = r at *
    match r, h5 with
    | 0, _ => simp; omega
    | 1, _ => simp; omega
    | 2, _ => simp; omega
  · rw [List.getElem?_eq_none (by omega), List.getElem?_eq_none (by rw [markV_length]; omega)]
theorem cntFrameS_le {xs : List Frame} (h : FrameSB xs) : cntFrameS xs ≤ 100000000 := by unfold FrameSB at h; unfold cntFrameS; omega
theorem toFrameS_o (xs : List Frame) (v : Value) (w : World) (r : rdsL w v xs) (hb : FrameSB xs) :
    Calls Tryz.prog 80 #[v] w fun e w' => ∃ u : Value, ∃ S : Nat → Prop, e = .returned u ∧ ownL S w' u xs ∧ (∀ b, S b → Rg w.heap.size w'.heap.size b) ∧ Below w.heap.size w w' := by
  refine (toFrameS_c v xs w hb (rdsFrames.1 r)).mono ?_
  rintro e w' ⟨u, rfl, o, b⟩
  exact ⟨u, _, rfl, ownFrame_of o, fun _ h => h, b⟩
theorem eqFrameS_o (xs : List Frame) (v u : Value) (w : World) (r : rdsL w v xs) (g : rdsL w u xs) :
    Calls Tryz.prog 97 #[v, u] w fun e w' => e = .returned (.bool true) ∧ Below w.heap.size w w' := eqFrameS_c v u xs w (rdsFrames.1 r) (rdsFrames.1 g)
theorem szFrameS_o (xs : List Frame) (v : Value) (k : Int) (w : World) (h0 : 0 ≤ k) (h1 : k ≤ 1048576) (r : rdsL w v xs) :
    Calls Tryz.prog 65 #[v, .int .i64 k] w fun e w' => e = .returned (.int .i64 (szR k (szFrameSD xs))) ∧ Below w.heap.size w w' := by
  obtain ⟨a, cap, rfl, hl, hm⟩ := (rdsFrames.1 r).form
  refine (szFrameS_c a xs.length cap k w (by omega) h0 h1).mono ?_
  rintro e w' ⟨rfl, rfl⟩
  exact ⟨rfl, Below.refl _ _⟩
theorem markFrameS_o (S : Nat → Prop) (xs : List Frame) (v : Value) (k : Int) (w : World) (hS : ∀ b, S b → b < w.heap.size) (hb : FrameSB xs) (h0 : 0 ≤ k) (h1 : k ≤ 1000000000000000) (o : ownL S w v xs) :
    Calls Tryz.prog 61 #[v, .int .i64 k] w fun r w' => r = .returned (.int .i64 (k + cntFrameS xs)) ∧ ownL S w' v (markFrameSD xs k) ∧ ChgS S w w' := by
  obtain ⟨r, hbk⟩ := ownFrames.1 o
  unfold FrameSB at hb
  refine (markFrameS_c 0 91 v xs.length _ k w (by omega) h0 (by omega) r).mono ?_
  rintro e w' ⟨rfl, r2, g2⟩
  refine ⟨by unfold cntFrameS; congr 2 <;> omega, ownFrames.2 ⟨by rw [markFrameSD_len, markFrameSD_enc]; exact r2, hbk⟩, ChgS.of_grown g2 fun b e => hbk b e⟩
instance encBool : FlatEnc Bool := flatEnc encB 1 4 (fun _ => rfl)
theorem rdsBools {w : World} {v : Value} {xs : List Bool} : rdsL w v xs ↔ Bools w v xs := rds_flat
theorem ownBools {S : Nat → Prop} {w : World} {v : Value} {xs : List Bool} : ownL S w v xs ↔ w.ownsRow 0 4 1 v xs.length (xs.flatMap encB) ∧ ∀ k, Blk v k → S k := own_flat
theorem ownBool_of {w w' : World} {u : Value} {xs : List Bool} (o : w'.ownsRow w.heap.size 4 1 u xs.length (xs.flatMap encB)) : ownL (Rg w.heap.size w'.heap.size) w' u xs := ownBools.2 ⟨owns_base o (fun _ _ => Nat.zero_le _), fun k hk => owns_in o k hk⟩
def BoolSB (xs : List Bool) : Prop := xs.length ≤ 1048576
def szBoolSD (xs : List Bool) : Nat := xs.length
def cntBoolS (xs : List Bool) : Nat := xs.length
def markBooln (k : Int) (i : Nat) : Bool := (k + i) % 3 == 0
def markBoolSD (xs : List Bool) (k : Int) : List Bool := (List.range xs.length).map (markBooln k)
theorem markBoolSD_len (xs : List Bool) (k : Int) : (markBoolSD xs k).length = xs.length := by simp [markBoolSD]
theorem markBoolSD_enc (xs : List Bool) (k : Int) : (markBoolSD xs k).flatMap encB = markV markB (xs.length) k := by
  apply List.ext_getElem?
  intro t
  have hl : ((markBoolSD xs k).flatMap encB).length = xs.length * 1 := by rw [flatMap_len encB 1 (fun _ => rfl), markBoolSD_len]
  by_cases h : t < xs.length * 1
  · have e := flatMap_get encB 1 (fun _ => rfl) (markBoolSD xs k) (t / 1) (by rw [markBoolSD_len]; omega) (t % 1) (by omega)
    rw [show t / 1 * 1 + t % 1 = t by omega] at e
    rw [e, markV_get _ _ _ _ (by omega)]
    have hm : (markBoolSD xs k)[t / 1]'(by rw [markBoolSD_len]; omega) = markBooln k (t / 1) := by simp [markBoolSD]
    rw [hm]
    have h5 : t % 1 < 1 := by omega
    have hq : (t : Int) = 1 * ((t / 1 : Nat) : Int) + ((t % 1 : Nat) : Int) := by omega
    unfold markB markBooln encB
    simp [Nat.mod_one]
  · rw [List.getElem?_eq_none (by omega), List.getElem?_eq_none (by rw [markV_length]; omega)]
theorem cntBoolS_le {xs : List Bool} (h : BoolSB xs) : cntBoolS xs ≤ 100000000 := by unfold BoolSB at h; unfold cntBoolS; omega
end Go.Proofs.YtbbdchlabdilcabGreat
