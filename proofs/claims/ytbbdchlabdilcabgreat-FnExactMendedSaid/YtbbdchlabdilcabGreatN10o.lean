/- Lists of flat data in memory: what the laws' helpers do, in the one form that the laws' walks take (lawgen3.py). -/
import Derived.Test.YtbbdchlabdilcabGreatProg
import Derived.Test.YtbbdchlabdilcabGreatN8o
namespace Go.Proofs.YtbbdchlabdilcabGreat
set_option maxRecDepth 100000
open Go.RowKit Go.Proofs Go.Own
set_option maxRecDepth 100000

theorem toIntA4_c (a0 a1 a2 a3 : Int) (w : World) :
    Calls Tryz.prog 78 #[.agg #[.int .i64 a0, .int .i64 a1, .int .i64 a2, .int .i64 a3]] w fun e w' => e = .returned (.agg #[.int .i64 a0, .int .i64 a1, .int .i64 a2, .int .i64 a3]) ∧ Below w.heap.size w w' := by
  go_enter Tryz.func78, Tryz.ntmps78
  go_wp2
  go_loopw [4] (fun i wr => ∃ (k : Nat) (b0 b1 b2 b3 : Int), k ≤ 4 ∧ i = .int .i64 k ∧ (0 < k → b0 = a0) ∧ (1 < k → b1 = a1) ∧ (2 < k → b2 = a2) ∧ (3 < k → b3 = a3) ∧ wr = ((w.alloc (.cells #[.int .i64 a0, .int .i64 a1, .int .i64 a2, .int .i64 a3] 70)).alloc (.cells #[.int .i64 0, .int .i64 0, .int .i64 0, .int .i64 0] 70)).alloc (.cells #[.int .i64 b0, .int .i64 b1, .int .i64 b2, .int .i64 b3] 70)) (fun i _ => 4 - (intOf i).toNat)
  case atStart => exact ⟨0, 0, 0, 0, 0, by omega, rfl, by omega, by omega, by omega, by omega, rfl⟩
  case round =>
    obtain ⟨k, b0, b1, b2, b3, hk, rfl, e0, e1, e2, e3, rfl⟩ := hrel
    obtain rfl | rfl | rfl | rfl | rfl : k = 0 ∨ k = 1 ∨ k = 2 ∨ k = 3 ∨ k = 4 := by omega
    · clear e0 e1 e2 e3
      go_wp2
      go_roundw
      case rel => exact ⟨1, a0, b1, b2, b3, by omega, rfl, fun _ => rfl, by omega, by omega, by omega, rfl⟩
      case measure => simp [intOf]
    · obtain rfl := e0 (by omega)
      clear e0 e1 e2 e3
      go_wp2
      go_roundw
      case rel => exact ⟨2, b0, a1, b2, b3, by omega, rfl, fun _ => rfl, fun _ => rfl, by omega, by omega, rfl⟩
      case measure => simp [intOf]
    · obtain rfl := e0 (by omega)
      obtain rfl := e1 (by omega)
      clear e0 e1 e2 e3
      go_wp2
      go_roundw
      case rel => exact ⟨3, b0, b1, a2, b3, by omega, rfl, fun _ => rfl, fun _ => rfl, fun _ => rfl, by omega, rfl⟩
      case measure => simp [intOf]
    · obtain rfl := e0 (by omega)
      obtain rfl := e1 (by omega)
      obtain rfl := e2 (by omega)
      clear e0 e1 e2 e3
      go_wp2
      go_roundw
      case rel => exact ⟨4, b0, b1, b2, a3, by omega, rfl, fun _ => rfl, fun _ => rfl, fun _ => rfl, fun _ => rfl, rfl⟩
      case measure => simp [intOf]
    · obtain rfl := e0 (by omega)
      obtain rfl := e1 (by omega)
      obtain rfl := e2 (by omega)
      obtain rfl := e3 (by omega)
      clear e0 e1 e2 e3
      go_wp2
      exact bodyPost_ret (v := .agg #[.int .i64 b0, .int .i64 b1, .int .i64 b2, .int .i64 b3]) (by simp [results, Tryz.results78, go_sem]) rfl ⟨rfl, (by repeat (first | exact Below.refl _ _ | refine below_drewN ?_ _ | refine Below.alloc ?_ (by simp; try omega) _))⟩

theorem eqIntA4_c (a0 a1 a2 a3 : Int) (w : World) :
    Calls Tryz.prog 95 #[.agg #[.int .i64 a0, .int .i64 a1, .int .i64 a2, .int .i64 a3], .agg #[.int .i64 a0, .int .i64 a1, .int .i64 a2, .int .i64 a3]] w fun e w' => e = .returned (.bool true) ∧ Below w.heap.size w w' := by
  go_enter Tryz.func95, Tryz.ntmps95
  go_wp2
  go_loopw [5] (fun i wr => ∃ (k : Nat), k ≤ 4 ∧ i = .int .i64 k ∧ Below w.heap.size w wr ∧ wr.cell? ⟨w.heap.size, 0, none⟩ = some (.int .i64 a0) ∧ wr.cell? ⟨w.heap.size, 1, none⟩ = some (.int .i64 a1) ∧ wr.cell? ⟨w.heap.size, 2, none⟩ = some (.int .i64 a2) ∧ wr.cell? ⟨w.heap.size, 3, none⟩ = some (.int .i64 a3) ∧ wr.cell? ⟨w.heap.size + 1, 0, none⟩ = some (.int .i64 a0) ∧ wr.cell? ⟨w.heap.size + 1, 1, none⟩ = some (.int .i64 a1) ∧ wr.cell? ⟨w.heap.size + 1, 2, none⟩ = some (.int .i64 a2) ∧ wr.cell? ⟨w.heap.size + 1, 3, none⟩ = some (.int .i64 a3)) (fun i _ => 4 - (intOf i).toNat)
  case atStart => exact ⟨0, by omega, rfl, (by repeat (first | exact Below.refl _ _ | refine below_drewN ?_ _ | refine Below.alloc ?_ (by simp; try omega) _)), by simp [go_sem], by simp [go_sem], by simp [go_sem], by simp [go_sem], by simp [go_sem], by simp [go_sem], by simp [go_sem], by simp [go_sem]⟩
  case round =>
    obtain ⟨k, hk, rfl, hB, c0, c1, c2, c3, d0, d1, d2, d3⟩ := hrel
    obtain rfl | rfl | rfl | rfl | rfl : k = 0 ∨ k = 1 ∨ k = 2 ∨ k = 3 ∨ k = 4 := by omega
    · go_wp2
      go_quiet (fail)
      go_wp2
      go_roundw
      case rel => exact ⟨1, by omega, rfl, below_drewN hB _, c0, c1, c2, c3, d0, d1, d2, d3⟩
      case measure => simp [intOf]
    · go_wp2
      go_quiet (fail)
      go_wp2
      go_roundw
      case rel => exact ⟨2, by omega, rfl, below_drewN hB _, c0, c1, c2, c3, d0, d1, d2, d3⟩
      case measure => simp [intOf]
    · go_wp2
      go_quiet (fail)
      go_wp2
      go_roundw
      case rel => exact ⟨3, by omega, rfl, below_drewN hB _, c0, c1, c2, c3, d0, d1, d2, d3⟩
      case measure => simp [intOf]
    · go_wp2
      go_quiet (fail)
      go_wp2
      go_roundw
      case rel => exact ⟨4, by omega, rfl, below_drewN hB _, c0, c1, c2, c3, d0, d1, d2, d3⟩
      case measure => simp [intOf]
    · go_wp2
      go_ret
      exact ⟨rfl, hB⟩

structure Instr where
  op_ : Int
  a_ : Int
  b_ : Int

def Instr.enc (o : Instr) : List Value := [.int .i64 o.op_, .int .i64 o.a_, .int .i64 o.b_]

def Instr.val (o : Instr) : Value := .agg #[.int .i64 o.op_, .int .i64 o.a_, .int .i64 o.b_]

/-- What a walk over a slice of these is told. -/
def Instrs (w : World) (v : Value) (xs : List Instr) : Prop := Flat w v xs.length 3 (xs.flatMap Instr.enc)

theorem Instrs.below {w w' : World} {v : Value} {xs : List Instr} (h : Instrs w v xs) (hb : Below w.heap.size w w') : Instrs w' v xs := Flat.below h hb

theorem Instrs.open {w : World} {v : Value} {xs : List Instr} (h : Instrs w v xs) : ∃ a cap, v = .slice a xs.length cap ∧ xs.length ≤ cap ∧ cap ≤ 9223372036854775807 ∧
    ∀ k, (hk : k < xs.length) → ∃ b off, a = some ⟨b, off, none⟩ ∧ b < w.heap.size ∧ w.cell? ⟨b, off + k * 3, none⟩ = some (.int .i64 xs[k].op_) ∧ w.cell? ⟨b, off + k * 3 + 1, none⟩ = some (.int .i64 xs[k].a_) ∧ w.cell? ⟨b, off + k * 3 + 2, none⟩ = some (.int .i64 xs[k].b_) := by
  obtain ⟨a, cap, e, h1, h2, h3⟩ := flat_elem (f := Instr.enc) (sz := 3) (fun _ => rfl) h
  refine ⟨a, cap, e, h1, h2, fun k hk => ?_⟩
  obtain ⟨b, off, ha, hs, hc⟩ := h3 k hk
  exact ⟨b, off, ha, hs, hc 0 (by omega), hc 1 (by omega), hc 2 (by omega)⟩

theorem toInstr_c (o : Instr) (w : World) :
    Calls Tryz.prog 102 #[o.val] w fun e w' => e = .returned o.val ∧ Below w.heap.size w w' := by
  obtain ⟨a0, a1, a2⟩ := o
  unfold Instr.val
  dsimp only
  go_enter Tryz.func102, Tryz.ntmps102
  go_wp2
  exact bodyPost_ret (v := .agg #[.int .i64 a0, .int .i64 a1, .int .i64 a2]) (by simp [results, Tryz.results102, go_sem]) rfl ⟨rfl, (by repeat (first | exact Below.refl _ _ | refine below_drewN ?_ _ | refine Below.alloc ?_ (by simp; try omega) _))⟩

theorem eqInstr_c (o : Instr) (w : World) :
    Calls Tryz.prog 121 #[o.val, o.val] w fun e w' => e = .returned (.bool true) ∧ Below w.heap.size w w' := by
  obtain ⟨a0, a1, a2⟩ := o
  unfold Instr.val
  dsimp only
  go_enter Tryz.func121, Tryz.ntmps121
  go_wp2
  go_ret
  exact ⟨rfl, (by repeat (first | exact Below.refl _ _ | refine below_drewN ?_ _ | refine Below.alloc ?_ (by simp; try omega) _))⟩

theorem infoInstr : (Tryz.prog.info? 127).map (fun i => (i.zero, i.size, i.bytes)) = some (some (.agg #[.int .i64 0, .int .i64 0, .int .i64 0]), 3, 24) := by kernel_rfl

theorem toInstrS_c (v : Value) (xs : List Instr) (w : World) (hx : xs.length ≤ 1048576) (h : Instrs w v xs) :
    Calls Tryz.prog 77 #[v] w fun e w' => ∃ v', e = .returned v' ∧ w'.ownsRow w.heap.size 127 3 v' xs.length (xs.flatMap Instr.enc) ∧ Below w.heap.size w w' := by
  obtain ⟨ad, cap, rfl, hl, hm, hc⟩ := h.open
  clear h
  have hlen : xs.length ≤ 9223372036854775807 := by omega
  obtain ⟨i0, hi, hz0, hz1, hz2⟩ := info_parts infoInstr
  have hL : (xs.flatMap Instr.enc).length = xs.length * 3 := flatMap_len _ 3 (fun _ => rfl) xs
  have hlk : ∀ k, (hk : k < xs.length) → ∀ j, j < 3 → (xs.flatMap Instr.enc)[k * 3 + j]? = (Instr.enc xs[k])[j]? := fun k hk j hj => flatMap_get Instr.enc 3 (fun _ => rfl) xs k hk j hj
  generalize xs.flatMap Instr.enc = L at *
  have HL := hid hL
  clear hL
  go_enter Tryz.func77, Tryz.ntmps77
  go_wp2_with (at_make; refine wpList_make_full _ rfl _ _ 78 rfl (w.heap.size) 127 i0 (.agg #[.int .i64 0, .int .i64 0, .int .i64 0]) 3 Tryz.underlying78 hi hz0 hz1 _ _ _ _ xs.length rfl rfl rfl rfl (by rw [hz2]; omega) (by unfold maxLen; omega) (Nat.le_refl _) ?_)
  intro w1 hown hgrow
  have hB := (Below.refl w.heap.size w).grown hgrow (Nat.le_refl _) (by simp)
  have hF := Fills.start (l := L) hown HL.out
  clear hown hgrow
  go_wp2
  go_loopw [4] (fun i wr => ∃ k : Nat, k ≤ xs.length ∧ i = .int .i64 k ∧ Fills wr w.heap.size 127 3 (.slice (some ⟨w.heap.size, 0, none⟩) xs.length xs.length) xs.length L (k * 3) ∧ Below w.heap.size w wr) (fun i _ => xs.length - (intOf i).toNat)
  case atStart => exact ⟨0, by omega, rfl, by rw [Nat.zero_mul]; exact hF, hB⟩
  case round =>
    clear hF hB
    obtain ⟨k, hk, rfl, hF, hB⟩ := hrel
    by_cases hlt : k < xs.length
    · obtain ⟨bb, off, rfl, hbs, c0, c1, c2⟩ := hc k hlt
      have e0 : wr.cell? ⟨bb, off + k * 3, none⟩ = some (.int .i64 xs[k].op_) := by rw [hB.cell (p := ⟨bb, off + k * 3, none⟩) hbs]; exact c0
      have e1 : wr.cell? ⟨bb, off + k * 3 + 1, none⟩ = some (.int .i64 xs[k].a_) := by rw [hB.cell (p := ⟨bb, off + k * 3 + 1, none⟩) hbs]; exact c1
      have e2 : wr.cell? ⟨bb, off + k * 3 + 2, none⟩ = some (.int .i64 xs[k].b_) := by rw [hB.cell (p := ⟨bb, off + k * 3 + 2, none⟩) hbs]; exact c2
      obtain ⟨g, hg, hbg, hgs, hcells⟩ := hF.at HL.out (by rw [HL.out]; omega)
      obtain rfl := (Addr.mk.inj (Option.some.inj hg)).1
      go_wp2_with fail
      refine (toInstr_c xs[k] _).mono ?_
      rintro e w2 ⟨rfl, hB1⟩
      have hB2 := hB.trans (hB1.mono (by have := hB.size; omega))
      have hF1 := hF.below hB1
      obtain ⟨g2, hg2, hbg2, hgs2, hcells2⟩ := hF1.at HL.out (by rw [HL.out]; omega)
      obtain rfl := (Addr.mk.inj (Option.some.inj hg2)).1
      obtain ⟨⟨u0, hu0⟩, hf0⟩ := hcells2 (k * 3) (by rw [HL.out]; omega)
      obtain ⟨⟨u1, hu1⟩, hf1⟩ := hcells2 (k * 3 + 1) (by rw [HL.out]; omega)
      obtain ⟨⟨u2, hu2⟩, hf2⟩ := hcells2 (k * 3 + 2) (by rw [HL.out]; omega)
      have l0 : L[k * 3]? = some (.int .i64 xs[k].op_) := hlk k hlt 0 (by omega)
      have l1 : L[k * 3 + 1]? = some (.int .i64 xs[k].a_) := hlk k hlt 1 (by omega)
      have l2 : L[k * 3 + 2]? = some (.int .i64 xs[k].b_) := hlk k hlt 2 (by omega)
      have s0 := (hF1.store _ l0).1
      have s1 := (s0.store _ l1).1
      have s2 := (s1.store _ l2).1
      have hB3 := (((hB2.setCell (p := ⟨w.heap.size, k * 3, none⟩) (Nat.le_refl _) (.int .i64 xs[k].op_)).setCell (p := ⟨w.heap.size, k * 3 + 1, none⟩) (Nat.le_refl _) (.int .i64 xs[k].a_)).setCell (p := ⟨w.heap.size, k * 3 + 2, none⟩) (Nat.le_refl _) (.int .i64 xs[k].b_))
      clear hc hcells hF hg hg2 hcells2 hF1 c0 c1 c2 e0 e1 e2 l0 l1 l2 hB1 hB2
      unfold Instr.val
      go_wp2
      go_roundw
      case rel => exact ⟨k+1, by omega, by go_num, by rw [Nat.add_mul]; exact s2, hB3⟩
      case measure => simp [intOf]; omega
    · go_wp2
      go_ret
      exact ⟨_, rfl, hF.done (by rw [HL.out]; omega), hB⟩

theorem eqInstrS_c (v u : Value) (xs : List Instr) (w : World) (h : Instrs w v xs) (g : Instrs w u xs) :
    Calls Tryz.prog 94 #[v, u] w fun e w' => e = .returned (.bool true) ∧ Below w.heap.size w w' := by
  obtain ⟨ad, cap, rfl, hl, hm, hc⟩ := h.open
  obtain ⟨ad2, cap2, rfl, hl2, hm2, hc2⟩ := g.open
  clear h g
  have hlen : xs.length ≤ 9223372036854775807 := by omega
  go_enter Tryz.func94, Tryz.ntmps94
  go_wp2
  go_loopw [5] (fun i wr => ∃ k : Nat, k ≤ xs.length ∧ i = .int .i64 k ∧ Below w.heap.size w wr) (fun i _ => xs.length - (intOf i).toNat)
  case atStart => exact ⟨0, by omega, rfl, Below.refl _ _⟩
  case round =>
    obtain ⟨k, hk, rfl, hB⟩ := hrel
    by_cases hlt : k < xs.length
    · obtain ⟨bb, off, rfl, hbs, c0, c1, c2⟩ := hc k hlt
      obtain ⟨bb2, off2, rfl, hbs2, d0, d1, d2⟩ := hc2 k hlt
      have kc : ∀ o, wr.cell? ⟨bb, o, none⟩ = w.cell? ⟨bb, o, none⟩ := fun o => hB.cell (p := ⟨bb, o, none⟩) hbs
      have kd : ∀ o, wr.cell? ⟨bb2, o, none⟩ = w.cell? ⟨bb2, o, none⟩ := fun o => hB.cell (p := ⟨bb2, o, none⟩) hbs2
      rw [← kc] at c0 c1 c2
      rw [← kd] at d0 d1 d2
      clear hc hc2 kc kd
      go_wp2
      go_still_tail 8, (by kernel_rfl)
      go_wp2_with fail
      refine (eqInstr_c xs[k] _).mono ?_
      rintro e w1 ⟨rfl, hB1⟩
      go_wp2
      go_roundw
      case rel => exact ⟨k+1, by omega, by go_num, hB.drew.trans (hB1.mono (by have := hB.size; simp; omega))⟩
      case measure => simp [intOf]; omega
    · go_wp2
      go_ret
      exact ⟨rfl, hB⟩

theorem markInstrS_c (base e : Nat) (v : Value) (n : Nat) (cs : List Value) (k : Int) (w : World) (hn : n ≤ 1099511627776) (h0 : 0 ≤ k) (h1 : k ≤ 1125899906842624) (h : w.ownsRow base e 3 v n cs) :
    Calls Tryz.prog 59 #[v, .int .i64 k] w fun r w' => r = .returned (.int .i64 (k + 3 * n)) ∧ w'.ownsRow base e 3 v n (markV markI (n * 3) k) ∧ w.grownBy w' v.ownBlock := by
  obtain ⟨a, cap, rfl, hl, hm⟩ := owns_form h
  have hF := Fills.start (l := markV markI (n * 3) k) h (by rw [markV_length])
  clear h
  go_enter Tryz.func59, Tryz.ntmps59
  go_wp2
  go_loopw [1, 5] (fun kk i wr => ∃ j : Nat, j ≤ n ∧ i = .int .i64 j ∧ kk = .int .i64 (k + 3 * j) ∧ Fills wr base e 3 (.slice a n cap) n (markV markI (n * 3) k) (j * 3) ∧ w.grownBy wr (Value.slice a n cap).ownBlock) (fun _ i _ => n - (intOf i).toNat)
  case atStart => exact ⟨0, by omega, rfl, by simp, by rw [Nat.zero_mul]; exact hF, World.grownBy.refl _ _⟩
  case round =>
    clear hF
    obtain ⟨j, hj, rfl, rfl, hF, hG⟩ := hrel
    by_cases hlt : j < n
    · have hm4 : (markV markI (n * 3) k).length = (n * 3) := markV_length _ _ _
      obtain ⟨g, rfl, hbg, hgs, hcells⟩ := hF.at (by rw [hm4]) (by omega)
      obtain ⟨⟨u0, hu0⟩, hf0⟩ := hcells (j * 3) (by omega)
      obtain ⟨⟨u1, hu1⟩, hf1⟩ := hcells (j * 3 + 1) (by omega)
      obtain ⟨⟨u2, hu2⟩, hf2⟩ := hcells (j * 3 + 2) (by omega)
      have s0 := hF.store (.int .i64 (k + 3 * j)) (by rw [markV_get _ _ _ _ (by omega)]; simp [markI] <;> omega)
      have s1 := s0.1.store (.int .i64 (k + 3 * j + 1)) (by rw [markV_get _ _ _ _ (by omega)]; simp [markI] <;> omega)
      have s2 := s1.1.store (.int .i64 (k + 3 * j + 1 + 1)) (by rw [markV_get _ _ _ _ (by omega)]; simp [markI] <;> omega)
      have hG4 := grownBy_trans hG (grownBy_trans (grownBy_trans s0.2 s1.2) s2.2)
      have hF4 := s2.1
      clear s0 s1 s2 hcells hm4 hF hG
      go_wp2
      go_roundw
      case rel => exact ⟨j+1, by omega, by go_num, by go_num, by rw [Nat.add_mul]; exact hF4, hG4⟩
      case measure => simp [intOf]; omega
    · go_wp2
      go_ret
      exact ⟨ret_int (by omega), hF.done (by rw [markV_length]; omega), hG⟩


theorem szInstrS_c (a : Option Addr) (n cap : Nat) (k : Int) (w : World) (hn : n ≤ 9223372036854775807) (h0 : 0 ≤ k) (h1 : k ≤ 1048576) :
    Calls Tryz.prog 63 #[.slice a n cap, .int .i64 k] w fun e w' => e = .returned (.int .i64 (if k < n then -1 else k - n)) ∧ w = w' := by
  go_enter Tryz.func63, Tryz.ntmps63
  go_wp2
  all_goals go_ret
  all_goals exact ⟨rfl, rfl⟩

end Go.Proofs.YtbbdchlabdilcabGreat
namespace Go.Proofs.YtbbdchlabdilcabGreat
set_option maxRecDepth 100000
open Go.RowKit Go.Proofs Go.Own
set_option linter.unusedVariables false
set_option linter.unusedSimpArgs false
instance encInstr : FlatEnc Instr := flatEnc Instr.enc 3 127 (fun _ => rfl)
theorem rdsInstrs {w : World} {v : Value} {xs : List Instr} : rdsL w v xs ↔ Instrs w v xs := rds_flat
theorem ownInstrs {S : Nat → Prop} {w : World} {v : Value} {xs : List Instr} : ownL S w v xs ↔ w.ownsRow 0 127 3 v xs.length (xs.flatMap Instr.enc) ∧ ∀ k, Blk v k → S k := own_flat
theorem ownInstr_of {w w' : World} {u : Value} {xs : List Instr} (o : w'.ownsRow w.heap.size 127 3 u xs.length (xs.flatMap Instr.enc)) : ownL (Rg w.heap.size w'.heap.size) w' u xs := ownInstrs.2 ⟨owns_base o (fun _ _ => Nat.zero_le _), fun k hk => owns_in o k hk⟩
def InstrSB (xs : List Instr) : Prop := xs.length ≤ 1048576
def szInstrSD (xs : List Instr) : Nat := xs.length
def cntInstrS (xs : List Instr) : Nat := 3 * xs.length
def markInstrn (k : Int) (i : Nat) : Instr := ⟨k + 3 * i, k + 3 * i + 1, k + 3 * i + 2⟩
def markInstrSD (xs : List Instr) (k : Int) : List Instr := (List.range xs.length).map (markInstrn k)
theorem markInstrSD_len (xs : List Instr) (k : Int) : (markInstrSD xs k).length = xs.length := by simp [markInstrSD]
theorem markInstrSD_enc (xs : List Instr) (k : Int) : (markInstrSD xs k).flatMap Instr.enc = markV markI (xs.length * 3) k := by
  apply List.ext_getElem?
  intro t
  have hl : ((markInstrSD xs k).flatMap Instr.enc).length = xs.length * 3 := by rw [flatMap_len Instr.enc 3 (fun _ => rfl), markInstrSD_len]
  by_cases h : t < xs.length * 3
  · have e := flatMap_get Instr.enc 3 (fun _ => rfl) (markInstrSD xs k) (t / 3) (by rw [markInstrSD_len]; omega) (t % 3) (by omega)
    rw [show t / 3 * 3 + t % 3 = t by omega] at e
    rw [e, markV_get _ _ _ _ (by omega)]
    have hm : (markInstrSD xs k)[t / 3]'(by rw [markInstrSD_len]; omega) = markInstrn k (t / 3) := by simp [markInstrSD]
    rw [hm]
    have h5 : t % 3 < 3 := by omega
    have hq : (t : Int) = 3 * ((t / 3 : Nat) : Int) + ((t % 3 : Nat) : Int) := by omega
    unfold markI markInstrn Instr.enc
    generalize t % 3 = r at *
    match r, h5 with
    | 0, _ => simp; omega
    | 1, _ => simp; omega
    | 2, _ => simp; omega
  · rw [List.getElem?_eq_none (by omega), List.getElem?_eq_none (by rw [markV_length]; omega)]
theorem cntInstrS_le {xs : List Instr} (h : InstrSB xs) : cntInstrS xs ≤ 100000000 := by unfold InstrSB at h; unfold cntInstrS; omega
theorem toInstrS_o (xs : List Instr) (v : Value) (w : World) (r : rdsL w v xs) (hb : InstrSB xs) :
    Calls Tryz.prog 77 #[v] w fun e w' => ∃ u : Value, ∃ S : Nat → Prop, e = .returned u ∧ ownL S w' u xs ∧ (∀ b, S b → Rg w.heap.size w'.heap.size b) ∧ Below w.heap.size w w' := by
  refine (toInstrS_c v xs w hb (rdsInstrs.1 r)).mono ?_
  rintro e w' ⟨u, rfl, o, b⟩
  exact ⟨u, _, rfl, ownInstr_of o, fun _ h => h, b⟩
theorem eqInstrS_o (xs : List Instr) (v u : Value) (w : World) (r : rdsL w v xs) (g : rdsL w u xs) :
    Calls Tryz.prog 94 #[v, u] w fun e w' => e = .returned (.bool true) ∧ Below w.heap.size w w' := eqInstrS_c v u xs w (rdsInstrs.1 r) (rdsInstrs.1 g)
theorem szInstrS_o (xs : List Instr) (v : Value) (k : Int) (w : World) (h0 : 0 ≤ k) (h1 : k ≤ 1048576) (r : rdsL w v xs) :
    Calls Tryz.prog 63 #[v, .int .i64 k] w fun e w' => e = .returned (.int .i64 (szR k (szInstrSD xs))) ∧ Below w.heap.size w w' := by
  obtain ⟨a, cap, rfl, hl, hm⟩ := (rdsInstrs.1 r).form
  refine (szInstrS_c a xs.length cap k w (by omega) h0 h1).mono ?_
  rintro e w' ⟨rfl, rfl⟩
  exact ⟨rfl, Below.refl _ _⟩
theorem markInstrS_o (S : Nat → Prop) (xs : List Instr) (v : Value) (k : Int) (w : World) (hS : ∀ b, S b → b < w.heap.size) (hb : InstrSB xs) (h0 : 0 ≤ k) (h1 : k ≤ 1000000000000000) (o : ownL S w v xs) :
    Calls Tryz.prog 59 #[v, .int .i64 k] w fun r w' => r = .returned (.int .i64 (k + cntInstrS xs)) ∧ ownL S w' v (markInstrSD xs k) ∧ ChgS S w w' := by
  obtain ⟨r, hbk⟩ := ownInstrs.1 o
  unfold InstrSB at hb
  refine (markInstrS_c 0 127 v xs.length _ k w (by omega) h0 (by omega) r).mono ?_
  rintro e w' ⟨rfl, r2, g2⟩
  refine ⟨by unfold cntInstrS; congr 2 <;> omega, ownInstrs.2 ⟨by rw [markInstrSD_len, markInstrSD_enc]; exact r2, hbk⟩, ChgS.of_grown g2 fun b e => hbk b e⟩
end Go.Proofs.YtbbdchlabdilcabGreat
