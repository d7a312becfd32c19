import Derived.Test.YtikiaffgjpddeaaDoorProg
import Derived.Test.YtikiaffgjpddeaaDoorBase
namespace Go.Proofs.YtikiaffgjpddeaaDoor
open Go.RowKit Go.Proofs Go.Own
set_option maxRecDepth 100000

theorem infoInt : (Tryd.prog.info? 3).map (fun i => (i.zero, i.size, i.bytes)) = some (some (.int .i64 0), 1, 8) := by kernel_rfl






structure Instr where
  op_ : Int
  a_ : Int
  b_ : Int

def Instr.enc (o : Instr) : List Value := [.int .i64 o.op_, .int .i64 o.a_, .int .i64 o.b_]

def Instr.val (o : Instr) : Value := .agg #[.int .i64 o.op_, .int .i64 o.a_, .int .i64 o.b_]

/-- What a walk over a slice of these is told. -/
def Instrs (w : World) (v : Value) (xs : List Instr) : Prop := Flat w v xs.length 3 (xs.flatMap Instr.enc)

theorem Instrs.below {w w' : World} {v : Value} {xs : List Instr} (h : Instrs w v xs) (hb : Below w.heap.size w w') : Instrs w' v xs := Flat.below h hb

theorem Instrs.open {w : World} {v : Value} {xs : List Instr} (h : Instrs w v xs) : ∃ a cap, v = .slice a xs.length cap ∧ xs.length ≤ cap ∧ cap ≤ 9223372036854775807 ∧
    ∀ k, (hk : k < xs.length) → ∃ b off, a = some ⟨b, off, none⟩ ∧ b < w.heap.size ∧ w.cell? ⟨b, off + k * 3, none⟩ = some (.int .i64 xs[k].op_) ∧ w.cell? ⟨b, off + k * 3 + 1, none⟩ = some (.int .i64 xs[k].a_) ∧ w.cell? ⟨b, off + k * 3 + 2, none⟩ = some (.int .i64 xs[k].b_) := by
  obtain ⟨a, cap, e, h1, h2, h3⟩ := flat_elem (f := Instr.enc) (sz := 3) (fun _ => rfl) h
  refine ⟨a, cap, e, h1, h2, fun k hk => ?_⟩
  obtain ⟨b, off, ha, hs, hc⟩ := h3 k hk
  exact ⟨b, off, ha, hs, hc 0 (by omega), hc 1 (by omega), hc 2 (by omega)⟩

theorem toInstr_c (o : Instr) (w : World) :
    Calls Tryd.prog 16 #[o.val] w fun e w' => e = .returned o.val ∧ Below w.heap.size w w' := by
  obtain ⟨a0, a1, a2⟩ := o
  unfold Instr.val
  dsimp only
  go_enter Tryd.func16, Tryd.ntmps16
  go_wp2
  exact bodyPost_ret (v := .agg #[.int .i64 a0, .int .i64 a1, .int .i64 a2]) (by simp [results, Tryd.results16, go_sem]) rfl ⟨rfl, (by repeat (first | exact Below.refl _ _ | refine below_drewN ?_ _ | refine Below.alloc ?_ (by simp; try omega) _))⟩

theorem eqInstr_c (o : Instr) (w : World) :
    Calls Tryd.prog 19 #[o.val, o.val] w fun e w' => e = .returned (.bool true) ∧ Below w.heap.size w w' := by
  obtain ⟨a0, a1, a2⟩ := o
  unfold Instr.val
  dsimp only
  go_enter Tryd.func19, Tryd.ntmps19
  go_wp2
  go_ret
  exact ⟨rfl, (by repeat (first | exact Below.refl _ _ | refine below_drewN ?_ _ | refine Below.alloc ?_ (by simp; try omega) _))⟩

theorem infoInstr : (Tryd.prog.info? 37).map (fun i => (i.zero, i.size, i.bytes)) = some (some (.agg #[.int .i64 0, .int .i64 0, .int .i64 0]), 3, 24) := by kernel_rfl

theorem toInstrS_c (v : Value) (xs : List Instr) (w : World) (hx : xs.length ≤ 1048576) (h : Instrs w v xs) :
    Calls Tryd.prog 7 #[v] w fun e w' => ∃ v', e = .returned v' ∧ w'.ownsRow w.heap.size 37 3 v' xs.length (xs.flatMap Instr.enc) ∧ Below w.heap.size w w' := by
  obtain ⟨ad, cap, rfl, hl, hm, hc⟩ := h.open
  clear h
  have hlen : xs.length ≤ 9223372036854775807 := by omega
  obtain ⟨i0, hi, hz0, hz1, hz2⟩ := info_parts infoInstr
  have hL : (xs.flatMap Instr.enc).length = xs.length * 3 := flatMap_len _ 3 (fun _ => rfl) xs
  have hlk : ∀ k, (hk : k < xs.length) → ∀ j, j < 3 → (xs.flatMap Instr.enc)[k * 3 + j]? = (Instr.enc xs[k])[j]? := fun k hk j hj => flatMap_get Instr.enc 3 (fun _ => rfl) xs k hk j hj
  generalize xs.flatMap Instr.enc = L at *
  have HL := hid hL
  clear hL
  go_enter Tryd.func7, Tryd.ntmps7
  go_wp2_with (at_make; refine wpList_make_full _ rfl _ _ 26 rfl (w.heap.size) 37 i0 (.agg #[.int .i64 0, .int .i64 0, .int .i64 0]) 3 Tryd.underlying26 hi hz0 hz1 _ _ _ _ xs.length rfl rfl rfl rfl (by rw [hz2]; omega) (by unfold maxLen; omega) (Nat.le_refl _) ?_)
  intro w1 hown hgrow
  have hB := (Below.refl w.heap.size w).grown hgrow (Nat.le_refl _) (by simp)
  have hF := Fills.start (l := L) hown HL.out
  clear hown hgrow
  go_wp2
  go_loopw [4] (fun i wr => ∃ k : Nat, k ≤ xs.length ∧ i = .int .i64 k ∧ Fills wr w.heap.size 37 3 (.slice (some ⟨w.heap.size, 0, none⟩) xs.length xs.length) xs.length L (k * 3) ∧ Below w.heap.size w wr) (fun i _ => xs.length - (intOf i).toNat)
  case atStart => exact ⟨0, by omega, rfl, by rw [Nat.zero_mul]; exact hF, hB⟩
  case round =>
    clear hF hB
    obtain ⟨k, hk, rfl, hF, hB⟩ := hrel
    by_cases hlt : k < xs.length
    · obtain ⟨bb, off, rfl, hbs, c0, c1, c2⟩ := hc k hlt
      have e0 : wr.cell? ⟨bb, off + k * 3, none⟩ = some (.int .i64 xs[k].op_) := by rw [hB.cell (p := ⟨bb, off + k * 3, none⟩) hbs]; exact c0
      have e1 : wr.cell? ⟨bb, off + k * 3 + 1, none⟩ = some (.int .i64 xs[k].a_) := by rw [hB.cell (p := ⟨bb, off + k * 3 + 1, none⟩) hbs]; exact c1
      have e2 : wr.cell? ⟨bb, off + k * 3 + 2, none⟩ = some (.int .i64 xs[k].b_) := by rw [hB.cell (p := ⟨bb, off + k * 3 + 2, none⟩) hbs]; exact c2
      obtain ⟨g, hg, hbg, hgs, hcells⟩ := hF.at HL.out (by rw [HL.out]; omega)
      obtain rfl := (Addr.mk.inj (Option.some.inj hg)).1
      go_wp2_with fail
      refine (toInstr_c xs[k] _).mono ?_
      rintro e w2 ⟨rfl, hB1⟩
      have hB2 := hB.trans (hB1.mono (by have := hB.size; omega))
      have hF1 := hF.below hB1
      obtain ⟨g2, hg2, hbg2, hgs2, hcells2⟩ := hF1.at HL.out (by rw [HL.out]; omega)
      obtain rfl := (Addr.mk.inj (Option.some.inj hg2)).1
      obtain ⟨⟨u0, hu0⟩, hf0⟩ := hcells2 (k * 3) (by rw [HL.out]; omega)
      obtain ⟨⟨u1, hu1⟩, hf1⟩ := hcells2 (k * 3 + 1) (by rw [HL.out]; omega)
      obtain ⟨⟨u2, hu2⟩, hf2⟩ := hcells2 (k * 3 + 2) (by rw [HL.out]; omega)
      have l0 : L[k * 3]? = some (.int .i64 xs[k].op_) := hlk k hlt 0 (by omega)
      have l1 : L[k * 3 + 1]? = some (.int .i64 xs[k].a_) := hlk k hlt 1 (by omega)
      have l2 : L[k * 3 + 2]? = some (.int .i64 xs[k].b_) := hlk k hlt 2 (by omega)
      have s0 := (hF1.store _ l0).1
      have s1 := (s0.store _ l1).1
      have s2 := (s1.store _ l2).1
      have hB3 := (((hB2.setCell (p := ⟨w.heap.size, k * 3, none⟩) (Nat.le_refl _) (.int .i64 xs[k].op_)).setCell (p := ⟨w.heap.size, k * 3 + 1, none⟩) (Nat.le_refl _) (.int .i64 xs[k].a_)).setCell (p := ⟨w.heap.size, k * 3 + 2, none⟩) (Nat.le_refl _) (.int .i64 xs[k].b_))
      clear hc hcells hF hg hg2 hcells2 hF1 c0 c1 c2 e0 e1 e2 l0 l1 l2 hB1 hB2
      unfold Instr.val
      go_wp2
      go_roundw
      case rel => exact ⟨k+1, by omega, by go_num, by rw [Nat.add_mul]; exact s2, hB3⟩
      case measure => simp [intOf]; omega
    · go_wp2
      go_ret
      exact ⟨_, rfl, hF.done (by rw [HL.out]; omega), hB⟩

theorem eqInstrS_c (v u : Value) (xs : List Instr) (w : World) (h : Instrs w v xs) (g : Instrs w u xs) :
    Calls Tryd.prog 9 #[v, u] w fun e w' => e = .returned (.bool true) ∧ Below w.heap.size w w' := by
  obtain ⟨ad, cap, rfl, hl, hm, hc⟩ := h.open
  obtain ⟨ad2, cap2, rfl, hl2, hm2, hc2⟩ := g.open
  clear h g
  have hlen : xs.length ≤ 9223372036854775807 := by omega
  go_enter Tryd.func9, Tryd.ntmps9
  go_wp2
  go_loopw [5] (fun i wr => ∃ k : Nat, k ≤ xs.length ∧ i = .int .i64 k ∧ Below w.heap.size w wr) (fun i _ => xs.length - (intOf i).toNat)
  case atStart => exact ⟨0, by omega, rfl, Below.refl _ _⟩
  case round =>
    obtain ⟨k, hk, rfl, hB⟩ := hrel
    by_cases hlt : k < xs.length
    · obtain ⟨bb, off, rfl, hbs, c0, c1, c2⟩ := hc k hlt
      obtain ⟨bb2, off2, rfl, hbs2, d0, d1, d2⟩ := hc2 k hlt
      have kc : ∀ o, wr.cell? ⟨bb, o, none⟩ = w.cell? ⟨bb, o, none⟩ := fun o => hB.cell (p := ⟨bb, o, none⟩) hbs
      have kd : ∀ o, wr.cell? ⟨bb2, o, none⟩ = w.cell? ⟨bb2, o, none⟩ := fun o => hB.cell (p := ⟨bb2, o, none⟩) hbs2
      rw [← kc] at c0 c1 c2
      rw [← kd] at d0 d1 d2
      clear hc hc2 kc kd
      go_wp2
      go_still_tail 8, (by kernel_rfl)
      go_wp2_with fail
      refine (eqInstr_c xs[k] _).mono ?_
      rintro e w1 ⟨rfl, hB1⟩
      go_wp2
      go_roundw
      case rel => exact ⟨k+1, by omega, by go_num, hB.drew.trans (hB1.mono (by have := hB.size; simp; omega))⟩
      case measure => simp [intOf]; omega
    · go_wp2
      go_ret
      exact ⟨rfl, hB⟩

theorem markInstrS_c (base e : Nat) (v : Value) (n : Nat) (cs : List Value) (k : Int) (w : World) (hn : n ≤ 1099511627776) (h0 : 0 ≤ k) (h1 : k ≤ 1125899906842624) (h : w.ownsRow base e 3 v n cs) :
    Calls Tryd.prog 12 #[v, .int .i64 k] w fun r w' => r = .returned (.int .i64 (k + 3 * n)) ∧ w'.ownsRow base e 3 v n (markV markI (n * 3) k) ∧ w.grownBy w' v.ownBlock := by
  obtain ⟨a, cap, rfl, hl, hm⟩ := owns_form h
  have hF := Fills.start (l := markV markI (n * 3) k) h (by rw [markV_length])
  clear h
  go_enter Tryd.func12, Tryd.ntmps12
  go_wp2
  go_loopw [1, 5] (fun kk i wr => ∃ j : Nat, j ≤ n ∧ i = .int .i64 j ∧ kk = .int .i64 (k + 3 * j) ∧ Fills wr base e 3 (.slice a n cap) n (markV markI (n * 3) k) (j * 3) ∧ w.grownBy wr (Value.slice a n cap).ownBlock) (fun _ i _ => n - (intOf i).toNat)
  case atStart => exact ⟨0, by omega, rfl, by simp, by rw [Nat.zero_mul]; exact hF, World.grownBy.refl _ _⟩
  case round =>
    clear hF
    obtain ⟨j, hj, rfl, rfl, hF, hG⟩ := hrel
    by_cases hlt : j < n
    · have hm4 : (markV markI (n * 3) k).length = (n * 3) := markV_length _ _ _
      obtain ⟨g, rfl, hbg, hgs, hcells⟩ := hF.at (by rw [hm4]) (by omega)
      obtain ⟨⟨u0, hu0⟩, hf0⟩ := hcells (j * 3) (by omega)
      obtain ⟨⟨u1, hu1⟩, hf1⟩ := hcells (j * 3 + 1) (by omega)
      obtain ⟨⟨u2, hu2⟩, hf2⟩ := hcells (j * 3 + 2) (by omega)
      have s0 := hF.store (.int .i64 (k + 3 * j)) (by rw [markV_get _ _ _ _ (by omega)]; simp [markI] <;> omega)
      have s1 := s0.1.store (.int .i64 (k + 3 * j + 1)) (by rw [markV_get _ _ _ _ (by omega)]; simp [markI] <;> omega)
      have s2 := s1.1.store (.int .i64 (k + 3 * j + 1 + 1)) (by rw [markV_get _ _ _ _ (by omega)]; simp [markI] <;> omega)
      have hG4 := grownBy_trans hG (grownBy_trans (grownBy_trans s0.2 s1.2) s2.2)
      have hF4 := s2.1
      clear s0 s1 s2 hcells hm4 hF hG
      go_wp2
      go_roundw
      case rel => exact ⟨j+1, by omega, by go_num, by go_num, by rw [Nat.add_mul]; exact hF4, hG4⟩
      case measure => simp [intOf]; omega
    · go_wp2
      go_ret
      exact ⟨ret_int (by omega), hF.done (by rw [markV_length]; omega), hG⟩

theorem heldInstrS_c (v : Value) (n : Nat) (k : Int) (w : World) (hn : n ≤ 1099511627776) (h0 : 0 ≤ k) (h1 : k ≤ 1125899906842624) (h : Flat w v n 3 (markV markI (n * 3) k)) :
    Calls Tryd.prog 13 #[v, .int .i64 k] w fun r w' => r = .returned (.int .i64 (k + 3 * n)) ∧ Below w.heap.size w w' := by
  obtain ⟨a, cap, rfl, hl, hm, hc⟩ := flat_cells h
  clear h
  go_enter Tryd.func13, Tryd.ntmps13
  go_wp2
  go_loopw [1, 5] (fun kk i wr => ∃ j : Nat, j ≤ n ∧ i = .int .i64 j ∧ kk = .int .i64 (k + 3 * j) ∧ w = wr) (fun _ i _ => n - (intOf i).toNat)
  case atStart => exact ⟨0, by omega, rfl, by simp, by simp⟩
  case round =>
    obtain ⟨j, hj, rfl, rfl, rfl⟩ := hrel
    by_cases hlt : j < n
    · obtain ⟨b, off, rfl, hbs, hcc⟩ := hc j hlt
      have e0 : w.cell? ⟨b, off + j * 3, none⟩ = some (.int .i64 (k + 3 * j)) := by have := hcc 0 (by omega); rw [markV_get _ _ _ _ (by omega)] at this; refine this.trans ?_; simp [markI] <;> omega
      have e1 : w.cell? ⟨b, off + j * 3 + 1, none⟩ = some (.int .i64 (k + 3 * j + 1)) := by have := hcc 1 (by omega); rw [markV_get _ _ _ _ (by omega)] at this; refine this.trans ?_; simp [markI] <;> omega
      have e2 : w.cell? ⟨b, off + j * 3 + 2, none⟩ = some (.int .i64 (k + 3 * j + 1 + 1)) := by have := hcc 2 (by omega); rw [markV_get _ _ _ _ (by omega)] at this; refine this.trans ?_; simp [markI] <;> omega
      clear hc hcc
      go_wp2
      go_roundw
      case rel => exact ⟨j+1, by omega, by go_num, by go_num, trivial⟩
      case measure => simp [intOf]; omega
    · go_wp2
      go_ret
      exact ⟨ret_int (by omega), Below.refl _ _⟩

theorem szInstrS_c (a : Option Addr) (n cap : Nat) (k : Int) (w : World) (hn : n ≤ 9223372036854775807) (h0 : 0 ≤ k) (h1 : k ≤ 1048576) :
    Calls Tryd.prog 5 #[.slice a n cap, .int .i64 k] w fun e w' => e = .returned (.int .i64 (if k < n then -1 else k - n)) ∧ w = w' := by
  go_enter Tryd.func5, Tryd.ntmps5
  go_wp2
  all_goals go_ret
  all_goals exact ⟨rfl, rfl⟩

end Go.Proofs.YtikiaffgjpddeaaDoor
