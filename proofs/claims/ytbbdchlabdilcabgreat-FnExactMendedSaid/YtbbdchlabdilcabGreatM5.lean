/- Chapter 11's data in memory: threads in a list, found marked. (printed by tools/mk_n11m.py) -/
import Derived.Test.YtbbdchlabdilcabGreatN11m
import Derived.Test.YtbbdchlabdilcabGreatProg
import Derived.Test.YtbbdchlabdilcabGreatN10
namespace Go.Proofs.YtbbdchlabdilcabGreat
set_option maxRecDepth 100000
open Go.RowKit Go.Proofs Go.Own
set_option linter.unusedVariables false
set_option linter.unusedSimpArgs false
end Go.Proofs.YtbbdchlabdilcabGreat
/- Lists of flat data in memory: what the laws' helpers do, in the one form that the laws' walks take (lawgen3.py). -/
namespace Go.Proofs.YtbbdchlabdilcabGreat
set_option maxRecDepth 100000
open Go.RowKit Go.Proofs Go.Own
set_option maxRecDepth 100000

structure Event where
  kind_ : Int
  thread_ : Int
  object_ : Int
  value_ : Int

def Event.enc (o : Event) : List Value := [.int .i64 o.kind_, .int .i64 o.thread_, .int .i64 o.object_, .int .i64 o.value_]

def Event.val (o : Event) : Value := .agg #[.int .i64 o.kind_, .int .i64 o.thread_, .int .i64 o.object_, .int .i64 o.value_]

/-- What a walk over a slice of these is told. -/
def Events (w : World) (v : Value) (xs : List Event) : Prop := Flat w v xs.length 4 (xs.flatMap Event.enc)

theorem Events.below {w w' : World} {v : Value} {xs : List Event} (h : Events w v xs) (hb : Below w.heap.size w w') : Events w' v xs := Flat.below h hb

theorem Events.open {w : World} {v : Value} {xs : List Event} (h : Events w v xs) : ∃ a cap, v = .slice a xs.length cap ∧ xs.length ≤ cap ∧ cap ≤ 9223372036854775807 ∧
    ∀ k, (hk : k < xs.length) → ∃ b off, a = some ⟨b, off, none⟩ ∧ b < w.heap.size ∧ w.cell? ⟨b, off + k * 4, none⟩ = some (.int .i64 xs[k].kind_) ∧ w.cell? ⟨b, off + k * 4 + 1, none⟩ = some (.int .i64 xs[k].thread_) ∧ w.cell? ⟨b, off + k * 4 + 2, none⟩ = some (.int .i64 xs[k].object_) ∧ w.cell? ⟨b, off + k * 4 + 3, none⟩ = some (.int .i64 xs[k].value_) := by
  obtain ⟨a, cap, e, h1, h2, h3⟩ := flat_elem (f := Event.enc) (sz := 4) (fun _ => rfl) h
  refine ⟨a, cap, e, h1, h2, fun k hk => ?_⟩
  obtain ⟨b, off, ha, hs, hc⟩ := h3 k hk
  exact ⟨b, off, ha, hs, hc 0 (by omega), hc 1 (by omega), hc 2 (by omega), hc 3 (by omega)⟩

theorem toEvent_c (o : Event) (w : World) :
    Calls Tryz.prog 45 #[o.val] w fun e w' => e = .returned o.val ∧ Below w.heap.size w w' := by
  obtain ⟨a0, a1, a2, a3⟩ := o
  unfold Event.val
  dsimp only
  go_enter Tryz.func45, Tryz.ntmps45
  go_wp2
  exact bodyPost_ret (v := .agg #[.int .i64 a0, .int .i64 a1, .int .i64 a2, .int .i64 a3]) (by simp [results, Tryz.results45, go_sem]) rfl ⟨rfl, (by repeat (first | exact Below.refl _ _ | refine below_drewN ?_ _ | refine Below.alloc ?_ (by simp; try omega) _))⟩

theorem eqEvent_c (o : Event) (w : World) :
    Calls Tryz.prog 56 #[o.val, o.val] w fun e w' => e = .returned (.bool true) ∧ Below w.heap.size w w' := by
  obtain ⟨a0, a1, a2, a3⟩ := o
  unfold Event.val
  dsimp only
  go_enter Tryz.func56, Tryz.ntmps56
  go_wp2
  go_ret
  exact ⟨rfl, (by repeat (first | exact Below.refl _ _ | refine below_drewN ?_ _ | refine Below.alloc ?_ (by simp; try omega) _))⟩

theorem infoEvent : (Tryz.prog.info? 96).map (fun i => (i.zero, i.size, i.bytes)) = some (some (.agg #[.int .i64 0, .int .i64 0, .int .i64 0, .int .i64 0]), 4, 32) := by kernel_rfl

theorem toEventS_c (v : Value) (xs : List Event) (w : World) (hx : xs.length ≤ 1048576) (h : Events w v xs) :
    Calls Tryz.prog 22 #[v] w fun e w' => ∃ v', e = .returned v' ∧ w'.ownsRow w.heap.size 96 4 v' xs.length (xs.flatMap Event.enc) ∧ Below w.heap.size w w' := by
  obtain ⟨ad, cap, rfl, hl, hm, hc⟩ := h.open
  clear h
  have hlen : xs.length ≤ 9223372036854775807 := by omega
  obtain ⟨i0, hi, hz0, hz1, hz2⟩ := info_parts infoEvent
  have hL : (xs.flatMap Event.enc).length = xs.length * 4 := flatMap_len _ 4 (fun _ => rfl) xs
  have hlk : ∀ k, (hk : k < xs.length) → ∀ j, j < 4 → (xs.flatMap Event.enc)[k * 4 + j]? = (Event.enc xs[k])[j]? := fun k hk j hj => flatMap_get Event.enc 4 (fun _ => rfl) xs k hk j hj
  generalize xs.flatMap Event.enc = L at *
  have HL := hid hL
  clear hL
  go_enter Tryz.func22, Tryz.ntmps22
  go_wp2_with (at_make; refine wpList_make_full _ rfl _ _ 39 rfl (w.heap.size) 96 i0 (.agg #[.int .i64 0, .int .i64 0, .int .i64 0, .int .i64 0]) 4 Tryz.underlying39 hi hz0 hz1 _ _ _ _ xs.length rfl rfl rfl rfl (by rw [hz2]; omega) (by unfold maxLen; omega) (Nat.le_refl _) ?_)
  intro w1 hown hgrow
  have hB := (Below.refl w.heap.size w).grown hgrow (Nat.le_refl _) (by simp)
  have hF := Fills.start (l := L) hown HL.out
  clear hown hgrow
  go_wp2
  go_loopw [4] (fun i wr => ∃ k : Nat, k ≤ xs.length ∧ i = .int .i64 k ∧ Fills wr w.heap.size 96 4 (.slice (some ⟨w.heap.size, 0, none⟩) xs.length xs.length) xs.length L (k * 4) ∧ Below w.heap.size w wr) (fun i _ => xs.length - (intOf i).toNat)
  case atStart => exact ⟨0, by omega, rfl, by rw [Nat.zero_mul]; exact hF, hB⟩
  case round =>
    clear hF hB
    obtain ⟨k, hk, rfl, hF, hB⟩ := hrel
    by_cases hlt : k < xs.length
    · obtain ⟨bb, off, rfl, hbs, c0, c1, c2, c3⟩ := hc k hlt
      have e0 : wr.cell? ⟨bb, off + k * 4, none⟩ = some (.int .i64 xs[k].kind_) := by rw [hB.cell (p := ⟨bb, off + k * 4, none⟩) hbs]; exact c0
      have e1 : wr.cell? ⟨bb, off + k * 4 + 1, none⟩ = some (.int .i64 xs[k].thread_) := by rw [hB.cell (p := ⟨bb, off + k * 4 + 1, none⟩) hbs]; exact c1
      have e2 : wr.cell? ⟨bb, off + k * 4 + 2, none⟩ = some (.int .i64 xs[k].object_) := by rw [hB.cell (p := ⟨bb, off + k * 4 + 2, none⟩) hbs]; exact c2
      have e3 : wr.cell? ⟨bb, off + k * 4 + 3, none⟩ = some (.int .i64 xs[k].value_) := by rw [hB.cell (p := ⟨bb, off + k * 4 + 3, none⟩) hbs]; exact c3
      obtain ⟨g, hg, hbg, hgs, hcells⟩ := hF.at HL.out (by rw [HL.out]; omega)
      obtain rfl := (Addr.mk.inj (Option.some.inj hg)).1
      go_wp2_with fail
      refine (toEvent_c xs[k] _).mono ?_
      rintro e w2 ⟨rfl, hB1⟩
      have hB2 := hB.trans (hB1.mono (by have := hB.size; omega))
      have hF1 := hF.below hB1
      obtain ⟨g2, hg2, hbg2, hgs2, hcells2⟩ := hF1.at HL.out (by rw [HL.out]; omega)
      obtain rfl := (Addr.mk.inj (Option.some.inj hg2)).1
      obtain ⟨⟨u0, hu0⟩, hf0⟩ := hcells2 (k * 4) (by rw [HL.out]; omega)
      obtain ⟨⟨u1, hu1⟩, hf1⟩ := hcells2 (k * 4 + 1) (by rw [HL.out]; omega)
      obtain ⟨⟨u2, hu2⟩, hf2⟩ := hcells2 (k * 4 + 2) (by rw [HL.out]; omega)
      obtain ⟨⟨u3, hu3⟩, hf3⟩ := hcells2 (k * 4 + 3) (by rw [HL.out]; omega)
      have l0 : L[k * 4]? = some (.int .i64 xs[k].kind_) := hlk k hlt 0 (by omega)
      have l1 : L[k * 4 + 1]? = some (.int .i64 xs[k].thread_) := hlk k hlt 1 (by omega)
      have l2 : L[k * 4 + 2]? = some (.int .i64 xs[k].object_) := hlk k hlt 2 (by omega)
      have l3 : L[k * 4 + 3]? = some (.int .i64 xs[k].value_) := hlk k hlt 3 (by omega)
      have s0 := (hF1.store _ l0).1
      have s1 := (s0.store _ l1).1
      have s2 := (s1.store _ l2).1
      have s3 := (s2.store _ l3).1
      have hB3 := ((((hB2.setCell (p := ⟨w.heap.size, k * 4, none⟩) (Nat.le_refl _) (.int .i64 xs[k].kind_)).setCell (p := ⟨w.heap.size, k * 4 + 1, none⟩) (Nat.le_refl _) (.int .i64 xs[k].thread_)).setCell (p := ⟨w.heap.size, k * 4 + 2, none⟩) (Nat.le_refl _) (.int .i64 xs[k].object_)).setCell (p := ⟨w.heap.size, k * 4 + 3, none⟩) (Nat.le_refl _) (.int .i64 xs[k].value_))
      clear hc hcells hF hg hg2 hcells2 hF1 c0 c1 c2 c3 e0 e1 e2 e3 l0 l1 l2 l3 hB1 hB2
      unfold Event.val
      go_wp2
      go_roundw
      case rel => exact ⟨k+1, by omega, by go_num, by rw [Nat.add_mul]; exact s3, hB3⟩
      case measure => simp [intOf]; omega
    · go_wp2
      go_ret
      exact ⟨_, rfl, hF.done (by rw [HL.out]; omega), hB⟩

theorem eqEventS_c (v u : Value) (xs : List Event) (w : World) (h : Events w v xs) (g : Events w u xs) :
    Calls Tryz.prog 27 #[v, u] w fun e w' => e = .returned (.bool true) ∧ Below w.heap.size w w' := by
  obtain ⟨ad, cap, rfl, hl, hm, hc⟩ := h.open
  obtain ⟨ad2, cap2, rfl, hl2, hm2, hc2⟩ := g.open
  clear h g
  have hlen : xs.length ≤ 9223372036854775807 := by omega
  go_enter Tryz.func27, Tryz.ntmps27
  go_wp2
  go_loopw [5] (fun i wr => ∃ k : Nat, k ≤ xs.length ∧ i = .int .i64 k ∧ Below w.heap.size w wr) (fun i _ => xs.length - (intOf i).toNat)
  case atStart => exact ⟨0, by omega, rfl, Below.refl _ _⟩
  case round =>
    obtain ⟨k, hk, rfl, hB⟩ := hrel
    by_cases hlt : k < xs.length
    · obtain ⟨bb, off, rfl, hbs, c0, c1, c2, c3⟩ := hc k hlt
      obtain ⟨bb2, off2, rfl, hbs2, d0, d1, d2, d3⟩ := hc2 k hlt
      have kc : ∀ o, wr.cell? ⟨bb, o, none⟩ = w.cell? ⟨bb, o, none⟩ := fun o => hB.cell (p := ⟨bb, o, none⟩) hbs
      have kd : ∀ o, wr.cell? ⟨bb2, o, none⟩ = w.cell? ⟨bb2, o, none⟩ := fun o => hB.cell (p := ⟨bb2, o, none⟩) hbs2
      rw [← kc] at c0 c1 c2 c3
      rw [← kd] at d0 d1 d2 d3
      clear hc hc2 kc kd
      go_wp2
      go_still_tail 8, (by kernel_rfl)
      go_wp2_with fail
      refine (eqEvent_c xs[k] _).mono ?_
      rintro e w1 ⟨rfl, hB1⟩
      go_wp2
      go_roundw
      case rel => exact ⟨k+1, by omega, by go_num, hB.drew.trans (hB1.mono (by have := hB.size; simp; omega))⟩
      case measure => simp [intOf]; omega
    · go_wp2
      go_ret
      exact ⟨rfl, hB⟩

theorem markEventS_c (base e : Nat) (v : Value) (n : Nat) (cs : List Value) (k : Int) (w : World) (hn : n ≤ 1099511627776) (h0 : 0 ≤ k) (h1 : k ≤ 1125899906842624) (h : w.ownsRow base e 4 v n cs) :
    Calls Tryz.prog 30 #[v, .int .i64 k] w fun r w' => r = .returned (.int .i64 (k + 4 * n)) ∧ w'.ownsRow base e 4 v n (markV markI (n * 4) k) ∧ w.grownBy w' v.ownBlock := by
  obtain ⟨a, cap, rfl, hl, hm⟩ := owns_form h
  have hF := Fills.start (l := markV markI (n * 4) k) h (by rw [markV_length])
  clear h
  go_enter Tryz.func30, Tryz.ntmps30
  go_wp2
  go_loopw [1, 5] (fun kk i wr => ∃ j : Nat, j ≤ n ∧ i = .int .i64 j ∧ kk = .int .i64 (k + 4 * j) ∧ Fills wr base e 4 (.slice a n cap) n (markV markI (n * 4) k) (j * 4) ∧ w.grownBy wr (Value.slice a n cap).ownBlock) (fun _ i _ => n - (intOf i).toNat)
  case atStart => exact ⟨0, by omega, rfl, by simp, by rw [Nat.zero_mul]; exact hF, World.grownBy.refl _ _⟩
  case round =>
    clear hF
    obtain ⟨j, hj, rfl, rfl, hF, hG⟩ := hrel
    by_cases hlt : j < n
    · have hm4 : (markV markI (n * 4) k).length = (n * 4) := markV_length _ _ _
      obtain ⟨g, rfl, hbg, hgs, hcells⟩ := hF.at (by rw [hm4]) (by omega)
      obtain ⟨⟨u0, hu0⟩, hf0⟩ := hcells (j * 4) (by omega)
      obtain ⟨⟨u1, hu1⟩, hf1⟩ := hcells (j * 4 + 1) (by omega)
      obtain ⟨⟨u2, hu2⟩, hf2⟩ := hcells (j * 4 + 2) (by omega)
      obtain ⟨⟨u3, hu3⟩, hf3⟩ := hcells (j * 4 + 3) (by omega)
      have s0 := hF.store (.int .i64 (k + 4 * j)) (by rw [markV_get _ _ _ _ (by omega)]; simp [markI] <;> omega)
      have s1 := s0.1.store (.int .i64 (k + 4 * j + 1)) (by rw [markV_get _ _ _ _ (by omega)]; simp [markI] <;> omega)
      have s2 := s1.1.store (.int .i64 (k + 4 * j + 1 + 1)) (by rw [markV_get _ _ _ _ (by omega)]; simp [markI] <;> omega)
      have s3 := s2.1.store (.int .i64 (k + 4 * j + 1 + 1 + 1)) (by rw [markV_get _ _ _ _ (by omega)]; simp [markI] <;> omega)
      have hG4 := grownBy_trans hG (grownBy_trans (grownBy_trans (grownBy_trans s0.2 s1.2) s2.2) s3.2)
      have hF4 := s3.1
      clear s0 s1 s2 s3 hcells hm4 hF hG
      go_wp2
      go_roundw
      case rel => exact ⟨j+1, by omega, by go_num, by go_num, by rw [Nat.add_mul]; exact hF4, hG4⟩
      case measure => simp [intOf]; omega
    · go_wp2
      go_ret
      exact ⟨ret_int (by omega), hF.done (by rw [markV_length]; omega), hG⟩


theorem szEventS_c (a : Option Addr) (n cap : Nat) (k : Int) (w : World) (hn : n ≤ 9223372036854775807) (h0 : 0 ≤ k) (h1 : k ≤ 1048576) :
    Calls Tryz.prog 16 #[.slice a n cap, .int .i64 k] w fun e w' => e = .returned (.int .i64 (if k < n then -1 else k - n)) ∧ w = w' := by
  go_enter Tryz.func16, Tryz.ntmps16
  go_wp2
  all_goals go_ret
  all_goals exact ⟨rfl, rfl⟩

end Go.Proofs.YtbbdchlabdilcabGreat
namespace Go.Proofs.YtbbdchlabdilcabGreat
set_option maxRecDepth 100000
open Go.RowKit Go.Proofs Go.Own
set_option linter.unusedVariables false
set_option linter.unusedSimpArgs false
instance encEvent : FlatEnc Event := flatEnc Event.enc 4 96 (fun _ => rfl)
theorem rdsEvents {w : World} {v : Value} {xs : List Event} : rdsL w v xs ↔ Events w v xs := rds_flat
theorem ownEvents {S : Nat → Prop} {w : World} {v : Value} {xs : List Event} : ownL S w v xs ↔ w.ownsRow 0 96 4 v xs.length (xs.flatMap Event.enc) ∧ ∀ k, Blk v k → S k := own_flat
theorem ownEvent_of {w w' : World} {u : Value} {xs : List Event} (o : w'.ownsRow w.heap.size 96 4 u xs.length (xs.flatMap Event.enc)) : ownL (Rg w.heap.size w'.heap.size) w' u xs := ownEvents.2 ⟨owns_base o (fun _ _ => Nat.zero_le _), fun k hk => owns_in o k hk⟩
def EventSB (xs : List Event) : Prop := xs.length ≤ 1048576
def szEventSD (xs : List Event) : Nat := xs.length
def cntEventS (xs : List Event) : Nat := 4 * xs.length
def markEventn (k : Int) (i : Nat) : Event := ⟨k + 4 * i, k + 4 * i + 1, k + 4 * i + 2, k + 4 * i + 3⟩
def markEventSD (xs : List Event) (k : Int) : List Event := (List.range xs.length).map (markEventn k)
theorem markEventSD_len (xs : List Event) (k : Int) : (markEventSD xs k).length = xs.length := by simp [markEventSD]
theorem markEventSD_enc (xs : List Event) (k : Int) : (markEventSD xs k).flatMap Event.enc = markV markI (xs.length * 4) k := by
  apply List.ext_getElem?
  intro t
  have hl : ((markEventSD xs k).flatMap Event.enc).length = xs.length * 4 := by rw [flatMap_len Event.enc 4 (fun _ => rfl), markEventSD_len]
  by_cases h : t < xs.length * 4
  · have e := flatMap_get Event.enc 4 (fun _ => rfl) (markEventSD xs k) (t / 4) (by rw [markEventSD_len]; omega) (t % 4) (by omega)
    rw [show t / 4 * 4 + t % 4 = t by omega] at e
    rw [e, markV_get _ _ _ _ (by omega)]
    have hm : (markEventSD xs k)[t / 4]'(by rw [markEventSD_len]; omega) = markEventn k (t / 4) := by simp [markEventSD]
    rw [hm]
    have h5 : t % 4 < 4 := by omega
    have hq : (t : Int) = 4 * ((t / 4 : Nat) : Int) + ((t % 4 : Nat) : Int) := by omega
    unfold markI markEventn Event.enc
    generalize t % 4 = r at *
    match r, h5 with
    | 0, _ => simp; omega
    | 1, _ => simp; omega
    | 2, _ => simp; omega
    | 3, _ => simp; omega
  · rw [List.getElem?_eq_none (by omega), List.getElem?_eq_none (by rw [markV_length]; omega)]
theorem cntEventS_le {xs : List Event} (h : EventSB xs) : cntEventS xs ≤ 100000000 := by unfold EventSB at h; unfold cntEventS; omega
theorem toEventS_o (xs : List Event) (v : Value) (w : World) (r : rdsL w v xs) (hb : EventSB xs) :
    Calls Tryz.prog 22 #[v] w fun e w' => ∃ u : Value, ∃ S : Nat → Prop, e = .returned u ∧ ownL S w' u xs ∧ (∀ b, S b → Rg w.heap.size w'.heap.size b) ∧ Below w.heap.size w w' := by
  refine (toEventS_c v xs w hb (rdsEvents.1 r)).mono ?_
  rintro e w' ⟨u, rfl, o, b⟩
  exact ⟨u, _, rfl, ownEvent_of o, fun _ h => h, b⟩
theorem eqEventS_o (xs : List Event) (v u : Value) (w : World) (r : rdsL w v xs) (g : rdsL w u xs) :
    Calls Tryz.prog 27 #[v, u] w fun e w' => e = .returned (.bool true) ∧ Below w.heap.size w w' := eqEventS_c v u xs w (rdsEvents.1 r) (rdsEvents.1 g)
theorem szEventS_o (xs : List Event) (v : Value) (k : Int) (w : World) (h0 : 0 ≤ k) (h1 : k ≤ 1048576) (r : rdsL w v xs) :
    Calls Tryz.prog 16 #[v, .int .i64 k] w fun e w' => e = .returned (.int .i64 (szR k (szEventSD xs))) ∧ Below w.heap.size w w' := by
  obtain ⟨a, cap, rfl, hl, hm⟩ := (rdsEvents.1 r).form
  refine (szEventS_c a xs.length cap k w (by omega) h0 h1).mono ?_
  rintro e w' ⟨rfl, rfl⟩
  exact ⟨rfl, Below.refl _ _⟩
theorem markEventS_o (S : Nat → Prop) (xs : List Event) (v : Value) (k : Int) (w : World) (hS : ∀ b, S b → b < w.heap.size) (hb : EventSB xs) (h0 : 0 ≤ k) (h1 : k ≤ 1000000000000000) (o : ownL S w v xs) :
    Calls Tryz.prog 30 #[v, .int .i64 k] w fun r w' => r = .returned (.int .i64 (k + cntEventS xs)) ∧ ownL S w' v (markEventSD xs k) ∧ ChgS S w w' := by
  obtain ⟨r, hbk⟩ := ownEvents.1 o
  unfold EventSB at hb
  refine (markEventS_c 0 96 v xs.length _ k w (by omega) h0 (by omega) r).mono ?_
  rintro e w' ⟨rfl, r2, g2⟩
  refine ⟨by unfold cntEventS; congr 2 <;> omega, ownEvents.2 ⟨by rw [markEventSD_len, markEventSD_enc]; exact r2, hbk⟩, ChgS.of_grown g2 fun b e => hbk b e⟩
end Go.Proofs.YtbbdchlabdilcabGreat
