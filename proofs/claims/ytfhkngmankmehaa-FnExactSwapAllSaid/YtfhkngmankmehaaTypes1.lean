import Derived.Test.YtfhkngmankmehaaProg
import Derived.Test.YtfhkngmankmehaaBase
namespace Go.Proofs.Ytfhkngmankmehaa
open Go.RowKit Go.Proofs Go.Own

theorem infoInt : (Try.prog.info? 3).map (fun i => (i.zero, i.size, i.bytes)) = some (some (.int .i64 0), 1, 8) := by kernel_rfl

theorem toIntS_c (v : Value) (xs : List Int) (w : World) (hx : xs.length ≤ 1048576) (h : Ints w v xs) :
    Calls Try.prog 10 #[v] w fun e w' => ∃ v', e = .returned v' ∧ w'.ownsRow w.heap.size 3 1 v' xs.length (xs.flatMap encI) ∧ Below w.heap.size w w' := by
  obtain ⟨ad, cap, rfl, hl, hm, hc⟩ := h.open
  clear h
  have hlen : xs.length ≤ 9223372036854775807 := by omega
  obtain ⟨i0, hi, hz0, hz1, hz2⟩ := info_parts infoInt
  have hL : (xs.flatMap encI).length = xs.length * 1 := flatMap_len _ 1 (fun _ => rfl) xs
  have hlk : ∀ k, (hk : k < xs.length) → ∀ j, j < 1 → (xs.flatMap encI)[k * 1 + j]? = (encI xs[k])[j]? := fun k hk j hj => flatMap_get encI 1 (fun _ => rfl) xs k hk j hj
  generalize xs.flatMap encI = L at *
  have HL := hid hL
  clear hL
  go_enter Try.func10, Try.ntmps10
  go_wp2_with (at_make; refine wpList_make_full _ rfl _ _ 22 rfl (w.heap.size) 3 i0 (.int .i64 0) 1 Try.underlying22 hi hz0 hz1 _ _ _ _ xs.length rfl rfl rfl rfl (by rw [hz2]; omega) (by unfold maxLen; omega) (Nat.le_refl _) ?_)
  intro w1 hown hgrow
  have hB := (Below.refl w.heap.size w).grown hgrow (Nat.le_refl _) (by simp)
  have hF := Fills.start (l := L) hown HL.out
  clear hown hgrow
  go_wp2
  go_loopw [4] (fun i wr => ∃ k : Nat, k ≤ xs.length ∧ i = .int .i64 k ∧ Fills wr w.heap.size 3 1 (.slice (some ⟨w.heap.size, 0, none⟩) xs.length xs.length) xs.length L (k) ∧ Below w.heap.size w wr) (fun i _ => xs.length - (intOf i).toNat)
  case atStart => exact ⟨0, by omega, rfl, hF, hB⟩
  case round =>
    clear hF hB
    obtain ⟨k, hk, rfl, hF, hB⟩ := hrel
    by_cases hlt : k < xs.length
    · obtain ⟨bb, off, rfl, hbs, c0⟩ := hc k hlt
      have e0 : wr.cell? ⟨bb, off + k, none⟩ = some (.int .i64 xs[k]) := by rw [hB.cell (p := ⟨bb, off + k, none⟩) hbs]; exact c0
      obtain ⟨g, hg, hbg, hgs, hcells⟩ := hF.at HL.out (by rw [HL.out]; omega)
      obtain rfl := (Addr.mk.inj (Option.some.inj hg)).1
      obtain ⟨⟨u0, hu0⟩, hf0⟩ := hcells k (by rw [HL.out]; omega)
      have l0 : L[k]? = some (.int .i64 xs[k]) := by have := hlk k hlt 0 (by omega); rw [Nat.mul_one, Nat.add_zero] at this; exact this
      have hF2 := (hF.store _ l0).1
      have hB2 := hB.setCell (p := ⟨w.heap.size, k, none⟩) (Nat.le_refl _) (.int .i64 xs[k])
      clear hc c0 l0 hcells hF hg
      go_wp2
      go_roundw
      case rel => exact ⟨k+1, by omega, by go_num, hF2, hB2⟩
      case measure => simp [intOf]; omega
    · go_wp2
      go_ret
      exact ⟨_, rfl, hF.done (by rw [HL.out]; omega), hB⟩

theorem eqIntS_c (v u : Value) (xs : List Int) (w : World) (h : Ints w v xs) (g : Ints w u xs) :
    Calls Try.prog 12 #[v, u] w fun e w' => e = .returned (.bool true) ∧ Below w.heap.size w w' := by
  obtain ⟨ad, cap, rfl, hl, hm, hc⟩ := h.open
  obtain ⟨ad2, cap2, rfl, hl2, hm2, hc2⟩ := g.open
  clear h g
  have hlen : xs.length ≤ 9223372036854775807 := by omega
  go_enter Try.func12, Try.ntmps12
  go_wp2
  go_loopw [5] (fun i wr => ∃ k : Nat, k ≤ xs.length ∧ i = .int .i64 k ∧ Below w.heap.size w wr) (fun i _ => xs.length - (intOf i).toNat)
  case atStart => exact ⟨0, by omega, rfl, Below.refl _ _⟩
  case round =>
    obtain ⟨k, hk, rfl, hB⟩ := hrel
    by_cases hlt : k < xs.length
    · obtain ⟨bb, off, rfl, hbs, c0⟩ := hc k hlt
      obtain ⟨bb2, off2, rfl, hbs2, d0⟩ := hc2 k hlt
      have kc : ∀ o, wr.cell? ⟨bb, o, none⟩ = w.cell? ⟨bb, o, none⟩ := fun o => hB.cell (p := ⟨bb, o, none⟩) hbs
      have kd : ∀ o, wr.cell? ⟨bb2, o, none⟩ = w.cell? ⟨bb2, o, none⟩ := fun o => hB.cell (p := ⟨bb2, o, none⟩) hbs2
      rw [← kc] at c0
      rw [← kd] at d0
      clear hc hc2 kc kd
      go_wp2
      go_quiet (fail)
      go_wp2
      go_roundw
      case rel => exact ⟨k+1, by omega, by go_num, below_drewN hB _⟩
      case measure => simp [intOf]; omega
    · go_wp2
      go_ret
      exact ⟨rfl, hB⟩

theorem markIntS_c (base e : Nat) (v : Value) (n : Nat) (cs : List Value) (k : Int) (w : World) (hn : n ≤ 1099511627776) (h0 : 0 ≤ k) (h1 : k ≤ 1125899906842624) (h : w.ownsRow base e 1 v n cs) :
    Calls Try.prog 16 #[v, .int .i64 k] w fun r w' => r = .returned (.int .i64 (k + n)) ∧ w'.ownsRow base e 1 v n (markV markI n k) ∧ w.grownBy w' v.ownBlock := by
  obtain ⟨a, cap, rfl, hl, hm⟩ := owns_form h
  have hF := Fills.start (l := markV markI n k) h (by rw [markV_length]; omega)
  clear h
  go_enter Try.func16, Try.ntmps16
  go_wp2
  go_loopw [1, 5] (fun kk i wr => ∃ j : Nat, j ≤ n ∧ i = .int .i64 j ∧ kk = .int .i64 (k + j) ∧ Fills wr base e 1 (.slice a n cap) n (markV markI n k) (j) ∧ w.grownBy wr (Value.slice a n cap).ownBlock) (fun _ i _ => n - (intOf i).toNat)
  case atStart => exact ⟨0, by omega, rfl, by simp, hF, World.grownBy.refl _ _⟩
  case round =>
    clear hF
    obtain ⟨j, hj, rfl, rfl, hF, hG⟩ := hrel
    by_cases hlt : j < n
    · have hm4 : (markV markI n k).length = n := markV_length _ _ _
      obtain ⟨g, rfl, hbg, hgs, hcells⟩ := hF.at (by rw [hm4]; omega) (by omega)
      obtain ⟨⟨u0, hu0⟩, hf0⟩ := hcells (j) (by omega)
      have s0 := hF.store (.int .i64 (k + j)) (by rw [markV_get _ _ _ _ (by omega)]; simp [markI] <;> omega)
      have hG4 := grownBy_trans hG s0.2
      have hF4 := s0.1
      clear s0 hcells hm4 hF hG
      go_wp2
      go_roundw
      case rel => exact ⟨j+1, by omega, by go_num, by go_num, hF4, hG4⟩
      case measure => simp [intOf]; omega
    · go_wp2
      go_ret
      exact ⟨ret_int (by omega), hF.done (by rw [markV_length]; omega), hG⟩

theorem heldIntS_c (v : Value) (n : Nat) (k : Int) (w : World) (hn : n ≤ 1099511627776) (h0 : 0 ≤ k) (h1 : k ≤ 1125899906842624) (h : Flat w v n 1 (markV markI n k)) :
    Calls Try.prog 17 #[v, .int .i64 k] w fun r w' => r = .returned (.int .i64 (k + n)) ∧ Below w.heap.size w w' := by
  obtain ⟨a, cap, rfl, hl, hm, hc⟩ := flat_cells h
  clear h
  go_enter Try.func17, Try.ntmps17
  go_wp2
  go_loopw [1, 5] (fun kk i wr => ∃ j : Nat, j ≤ n ∧ i = .int .i64 j ∧ kk = .int .i64 (k + j) ∧ w = wr) (fun _ i _ => n - (intOf i).toNat)
  case atStart => exact ⟨0, by omega, rfl, by simp, by simp⟩
  case round =>
    obtain ⟨j, hj, rfl, rfl, rfl⟩ := hrel
    by_cases hlt : j < n
    · obtain ⟨b, off, rfl, hbs, hcc⟩ := hc j hlt
      have e0 : w.cell? ⟨b, off + j, none⟩ = some (.int .i64 (k + j)) := by have := hcc 0 (by omega); rw [Nat.mul_one, Nat.add_zero] at this; rw [markV_get _ _ _ _ (by omega)] at this; refine this.trans ?_; simp [markI] <;> omega
      clear hc hcc
      go_wp2
      go_roundw
      case rel => exact ⟨j+1, by omega, by go_num, by go_num, trivial⟩
      case measure => simp [intOf]; omega
    · go_wp2
      go_ret
      exact ⟨ret_int (by omega), Below.refl _ _⟩

theorem infoBool : (Try.prog.info? 4).map (fun i => (i.zero, i.size, i.bytes)) = some (some (.bool false), 1, 1) := by kernel_rfl

theorem toBoolS_c (v : Value) (xs : List Bool) (w : World) (hx : xs.length ≤ 1048576) (h : Bools w v xs) :
    Calls Try.prog 27 #[v] w fun e w' => ∃ v', e = .returned v' ∧ w'.ownsRow w.heap.size 4 1 v' xs.length (xs.flatMap encB) ∧ Below w.heap.size w w' := by
  obtain ⟨ad, cap, rfl, hl, hm, hc⟩ := h.open
  clear h
  have hlen : xs.length ≤ 9223372036854775807 := by omega
  obtain ⟨i0, hi, hz0, hz1, hz2⟩ := info_parts infoBool
  have hL : (xs.flatMap encB).length = xs.length * 1 := flatMap_len _ 1 (fun _ => rfl) xs
  have hlk : ∀ k, (hk : k < xs.length) → ∀ j, j < 1 → (xs.flatMap encB)[k * 1 + j]? = (encB xs[k])[j]? := fun k hk j hj => flatMap_get encB 1 (fun _ => rfl) xs k hk j hj
  generalize xs.flatMap encB = L at *
  have HL := hid hL
  clear hL
  go_enter Try.func27, Try.ntmps27
  go_wp2_with (at_make; refine wpList_make_full _ rfl _ _ 46 rfl (w.heap.size) 4 i0 (.bool false) 1 Try.underlying46 hi hz0 hz1 _ _ _ _ xs.length rfl rfl rfl rfl (by rw [hz2]; omega) (by unfold maxLen; omega) (Nat.le_refl _) ?_)
  intro w1 hown hgrow
  have hB := (Below.refl w.heap.size w).grown hgrow (Nat.le_refl _) (by simp)
  have hF := Fills.start (l := L) hown HL.out
  clear hown hgrow
  go_wp2
  go_loopw [4] (fun i wr => ∃ k : Nat, k ≤ xs.length ∧ i = .int .i64 k ∧ Fills wr w.heap.size 4 1 (.slice (some ⟨w.heap.size, 0, none⟩) xs.length xs.length) xs.length L (k) ∧ Below w.heap.size w wr) (fun i _ => xs.length - (intOf i).toNat)
  case atStart => exact ⟨0, by omega, rfl, hF, hB⟩
  case round =>
    clear hF hB
    obtain ⟨k, hk, rfl, hF, hB⟩ := hrel
    by_cases hlt : k < xs.length
    · obtain ⟨bb, off, rfl, hbs, c0⟩ := hc k hlt
      have e0 : wr.cell? ⟨bb, off + k, none⟩ = some (.bool xs[k]) := by rw [hB.cell (p := ⟨bb, off + k, none⟩) hbs]; exact c0
      obtain ⟨g, hg, hbg, hgs, hcells⟩ := hF.at HL.out (by rw [HL.out]; omega)
      obtain rfl := (Addr.mk.inj (Option.some.inj hg)).1
      obtain ⟨⟨u0, hu0⟩, hf0⟩ := hcells k (by rw [HL.out]; omega)
      have l0 : L[k]? = some (.bool xs[k]) := by have := hlk k hlt 0 (by omega); rw [Nat.mul_one, Nat.add_zero] at this; exact this
      have hF2 := (hF.store _ l0).1
      have hB2 := hB.setCell (p := ⟨w.heap.size, k, none⟩) (Nat.le_refl _) (.bool xs[k])
      clear hc c0 l0 hcells hF hg
      go_wp2
      go_roundw
      case rel => exact ⟨k+1, by omega, by go_num, hF2, hB2⟩
      case measure => simp [intOf]; omega
    · go_wp2
      go_ret
      exact ⟨_, rfl, hF.done (by rw [HL.out]; omega), hB⟩

theorem eqBoolS_c (v u : Value) (xs : List Bool) (w : World) (h : Bools w v xs) (g : Bools w u xs) :
    Calls Try.prog 29 #[v, u] w fun e w' => e = .returned (.bool true) ∧ Below w.heap.size w w' := by
  obtain ⟨ad, cap, rfl, hl, hm, hc⟩ := h.open
  obtain ⟨ad2, cap2, rfl, hl2, hm2, hc2⟩ := g.open
  clear h g
  have hlen : xs.length ≤ 9223372036854775807 := by omega
  go_enter Try.func29, Try.ntmps29
  go_wp2
  go_loopw [5] (fun i wr => ∃ k : Nat, k ≤ xs.length ∧ i = .int .i64 k ∧ Below w.heap.size w wr) (fun i _ => xs.length - (intOf i).toNat)
  case atStart => exact ⟨0, by omega, rfl, Below.refl _ _⟩
  case round =>
    obtain ⟨k, hk, rfl, hB⟩ := hrel
    by_cases hlt : k < xs.length
    · obtain ⟨bb, off, rfl, hbs, c0⟩ := hc k hlt
      obtain ⟨bb2, off2, rfl, hbs2, d0⟩ := hc2 k hlt
      have kc : ∀ o, wr.cell? ⟨bb, o, none⟩ = w.cell? ⟨bb, o, none⟩ := fun o => hB.cell (p := ⟨bb, o, none⟩) hbs
      have kd : ∀ o, wr.cell? ⟨bb2, o, none⟩ = w.cell? ⟨bb2, o, none⟩ := fun o => hB.cell (p := ⟨bb2, o, none⟩) hbs2
      rw [← kc] at c0
      rw [← kd] at d0
      clear hc hc2 kc kd
      go_wp2
      go_quiet (fail)
      go_wp2
      go_roundw
      case rel => exact ⟨k+1, by omega, by go_num, below_drewN hB _⟩
      case measure => simp [intOf]; omega
    · go_wp2
      go_ret
      exact ⟨rfl, hB⟩

theorem markBoolS_c (base e : Nat) (v : Value) (n : Nat) (cs : List Value) (k : Int) (w : World) (hn : n ≤ 1099511627776) (h0 : 0 ≤ k) (h1 : k ≤ 1125899906842624) (h : w.ownsRow base e 1 v n cs) :
    Calls Try.prog 30 #[v, .int .i64 k] w fun r w' => r = .returned (.int .i64 (k + n)) ∧ w'.ownsRow base e 1 v n (markV markB n k) ∧ w.grownBy w' v.ownBlock := by
  obtain ⟨a, cap, rfl, hl, hm⟩ := owns_form h
  have hF := Fills.start (l := markV markB n k) h (by rw [markV_length]; omega)
  clear h
  go_enter Try.func30, Try.ntmps30
  go_wp2
  go_loopw [1, 5] (fun kk i wr => ∃ j : Nat, j ≤ n ∧ i = .int .i64 j ∧ kk = .int .i64 (k + j) ∧ Fills wr base e 1 (.slice a n cap) n (markV markB n k) (j) ∧ w.grownBy wr (Value.slice a n cap).ownBlock) (fun _ i _ => n - (intOf i).toNat)
  case atStart => exact ⟨0, by omega, rfl, by simp, hF, World.grownBy.refl _ _⟩
  case round =>
    clear hF
    obtain ⟨j, hj, rfl, rfl, hF, hG⟩ := hrel
    by_cases hlt : j < n
    · have hm4 : (markV markB n k).length = n := markV_length _ _ _
      obtain ⟨g, rfl, hbg, hgs, hcells⟩ := hF.at (by rw [hm4]; omega) (by omega)
      obtain ⟨⟨u0, hu0⟩, hf0⟩ := hcells (j) (by omega)
      have s0 := hF.store (.bool ((k + j) % 3 == 0)) (by rw [markV_get _ _ _ _ (by omega)]; simp [markB])
      have hG4 := grownBy_trans hG s0.2
      have hF4 := s0.1
      clear s0 hcells hm4 hF hG
      go_wp2
      go_roundw
      case rel => exact ⟨j+1, by omega, by go_num, by go_num, hF4, hG4⟩
      case measure => simp [intOf]; omega
    · go_wp2
      go_ret
      exact ⟨ret_int (by omega), hF.done (by rw [markV_length]; omega), hG⟩

structure WordOp where
  kind_ : Int
  at_ : Int
  old_ : Int
  new_ : Int

def WordOp.enc (o : WordOp) : List Value := [.int .i64 o.kind_, .int .i64 o.at_, .int .i64 o.old_, .int .i64 o.new_]

def WordOp.val (o : WordOp) : Value := .agg #[.int .i64 o.kind_, .int .i64 o.at_, .int .i64 o.old_, .int .i64 o.new_]

/-- What a walk over a slice of these is told. -/
def WordOps (w : World) (v : Value) (xs : List WordOp) : Prop := Flat w v xs.length 4 (xs.flatMap WordOp.enc)

theorem WordOps.below {w w' : World} {v : Value} {xs : List WordOp} (h : WordOps w v xs) (hb : Below w.heap.size w w') : WordOps w' v xs := Flat.below h hb

theorem WordOps.open {w : World} {v : Value} {xs : List WordOp} (h : WordOps w v xs) : ∃ a cap, v = .slice a xs.length cap ∧ xs.length ≤ cap ∧ cap ≤ 9223372036854775807 ∧
    ∀ k, (hk : k < xs.length) → ∃ b off, a = some ⟨b, off, none⟩ ∧ b < w.heap.size ∧ w.cell? ⟨b, off + k * 4, none⟩ = some (.int .i64 xs[k].kind_) ∧ w.cell? ⟨b, off + k * 4 + 1, none⟩ = some (.int .i64 xs[k].at_) ∧ w.cell? ⟨b, off + k * 4 + 2, none⟩ = some (.int .i64 xs[k].old_) ∧ w.cell? ⟨b, off + k * 4 + 3, none⟩ = some (.int .i64 xs[k].new_) := by
  obtain ⟨a, cap, e, h1, h2, h3⟩ := flat_elem (f := WordOp.enc) (sz := 4) (fun _ => rfl) h
  refine ⟨a, cap, e, h1, h2, fun k hk => ?_⟩
  obtain ⟨b, off, ha, hs, hc⟩ := h3 k hk
  exact ⟨b, off, ha, hs, hc 0 (by omega), hc 1 (by omega), hc 2 (by omega), hc 3 (by omega)⟩

theorem toWordOp_c (o : WordOp) (w : World) :
    Calls Try.prog 14 #[o.val] w fun e w' => e = .returned o.val ∧ Below w.heap.size w w' := by
  obtain ⟨a0, a1, a2, a3⟩ := o
  unfold WordOp.val
  dsimp only
  go_enter Try.func14, Try.ntmps14
  go_wp2
  exact bodyPost_ret (v := .agg #[.int .i64 a0, .int .i64 a1, .int .i64 a2, .int .i64 a3]) (by simp [results, Try.results14, go_sem]) rfl ⟨rfl, (by repeat (first | exact Below.refl _ _ | refine Below.alloc ?_ (by simp; try omega) _))⟩

theorem eqWordOp_c (o : WordOp) (w : World) :
    Calls Try.prog 42 #[o.val, o.val] w fun e w' => e = .returned (.bool true) ∧ Below w.heap.size w w' := by
  obtain ⟨a0, a1, a2, a3⟩ := o
  unfold WordOp.val
  dsimp only
  go_enter Try.func42, Try.ntmps42
  go_wp2
  go_ret
  exact ⟨rfl, (by repeat (first | exact Below.refl _ _ | refine Below.alloc ?_ (by simp; try omega) _))⟩

theorem infoWordOp : (Try.prog.info? 30).map (fun i => (i.zero, i.size, i.bytes)) = some (some (.agg #[.int .i64 0, .int .i64 0, .int .i64 0, .int .i64 0]), 4, 32) := by kernel_rfl

theorem toWordOpS_c (v : Value) (xs : List WordOp) (w : World) (hx : xs.length ≤ 1048576) (h : WordOps w v xs) :
    Calls Try.prog 20 #[v] w fun e w' => ∃ v', e = .returned v' ∧ w'.ownsRow w.heap.size 30 4 v' xs.length (xs.flatMap WordOp.enc) ∧ Below w.heap.size w w' := by
  obtain ⟨ad, cap, rfl, hl, hm, hc⟩ := h.open
  clear h
  have hlen : xs.length ≤ 9223372036854775807 := by omega
  obtain ⟨i0, hi, hz0, hz1, hz2⟩ := info_parts infoWordOp
  have hL : (xs.flatMap WordOp.enc).length = xs.length * 4 := flatMap_len _ 4 (fun _ => rfl) xs
  have hlk : ∀ k, (hk : k < xs.length) → ∀ j, j < 4 → (xs.flatMap WordOp.enc)[k * 4 + j]? = (WordOp.enc xs[k])[j]? := fun k hk j hj => flatMap_get WordOp.enc 4 (fun _ => rfl) xs k hk j hj
  generalize xs.flatMap WordOp.enc = L at *
  have HL := hid hL
  clear hL
  go_enter Try.func20, Try.ntmps20
  go_wp2_with (at_make; refine wpList_make_full _ rfl _ _ 38 rfl (w.heap.size) 30 i0 (.agg #[.int .i64 0, .int .i64 0, .int .i64 0, .int .i64 0]) 4 Try.underlying38 hi hz0 hz1 _ _ _ _ xs.length rfl rfl rfl rfl (by rw [hz2]; omega) (by unfold maxLen; omega) (Nat.le_refl _) ?_)
  intro w1 hown hgrow
  have hB := (Below.refl w.heap.size w).grown hgrow (Nat.le_refl _) (by simp)
  have hF := Fills.start (l := L) hown HL.out
  clear hown hgrow
  go_wp2
  go_loopw [4] (fun i wr => ∃ k : Nat, k ≤ xs.length ∧ i = .int .i64 k ∧ Fills wr w.heap.size 30 4 (.slice (some ⟨w.heap.size, 0, none⟩) xs.length xs.length) xs.length L (k * 4) ∧ Below w.heap.size w wr) (fun i _ => xs.length - (intOf i).toNat)
  case atStart => exact ⟨0, by omega, rfl, by rw [Nat.zero_mul]; exact hF, hB⟩
  case round =>
    clear hF hB
    obtain ⟨k, hk, rfl, hF, hB⟩ := hrel
    by_cases hlt : k < xs.length
    · obtain ⟨bb, off, rfl, hbs, c0, c1, c2, c3⟩ := hc k hlt
      have e0 : wr.cell? ⟨bb, off + k * 4, none⟩ = some (.int .i64 xs[k].kind_) := by rw [hB.cell (p := ⟨bb, off + k * 4, none⟩) hbs]; exact c0
      have e1 : wr.cell? ⟨bb, off + k * 4 + 1, none⟩ = some (.int .i64 xs[k].at_) := by rw [hB.cell (p := ⟨bb, off + k * 4 + 1, none⟩) hbs]; exact c1
      have e2 : wr.cell? ⟨bb, off + k * 4 + 2, none⟩ = some (.int .i64 xs[k].old_) := by rw [hB.cell (p := ⟨bb, off + k * 4 + 2, none⟩) hbs]; exact c2
      have e3 : wr.cell? ⟨bb, off + k * 4 + 3, none⟩ = some (.int .i64 xs[k].new_) := by rw [hB.cell (p := ⟨bb, off + k * 4 + 3, none⟩) hbs]; exact c3
      obtain ⟨g, hg, hbg, hgs, hcells⟩ := hF.at HL.out (by rw [HL.out]; omega)
      obtain rfl := (Addr.mk.inj (Option.some.inj hg)).1
      go_wp2_with fail
      refine (toWordOp_c xs[k] _).mono ?_
      rintro e w2 ⟨rfl, hB1⟩
      have hB2 := hB.trans (hB1.mono (by have := hB.size; omega))
      have hF1 := hF.below hB1
      obtain ⟨g2, hg2, hbg2, hgs2, hcells2⟩ := hF1.at HL.out (by rw [HL.out]; omega)
      obtain rfl := (Addr.mk.inj (Option.some.inj hg2)).1
      obtain ⟨⟨u0, hu0⟩, hf0⟩ := hcells2 (k * 4) (by rw [HL.out]; omega)
      obtain ⟨⟨u1, hu1⟩, hf1⟩ := hcells2 (k * 4 + 1) (by rw [HL.out]; omega)
      obtain ⟨⟨u2, hu2⟩, hf2⟩ := hcells2 (k * 4 + 2) (by rw [HL.out]; omega)
      obtain ⟨⟨u3, hu3⟩, hf3⟩ := hcells2 (k * 4 + 3) (by rw [HL.out]; omega)
      have l0 : L[k * 4]? = some (.int .i64 xs[k].kind_) := hlk k hlt 0 (by omega)
      have l1 : L[k * 4 + 1]? = some (.int .i64 xs[k].at_) := hlk k hlt 1 (by omega)
      have l2 : L[k * 4 + 2]? = some (.int .i64 xs[k].old_) := hlk k hlt 2 (by omega)
      have l3 : L[k * 4 + 3]? = some (.int .i64 xs[k].new_) := hlk k hlt 3 (by omega)
      have s0 := (hF1.store _ l0).1
      have s1 := (s0.store _ l1).1
      have s2 := (s1.store _ l2).1
      have s3 := (s2.store _ l3).1
      have hB3 := ((((hB2.setCell (p := ⟨w.heap.size, k * 4, none⟩) (Nat.le_refl _) (.int .i64 xs[k].kind_)).setCell (p := ⟨w.heap.size, k * 4 + 1, none⟩) (Nat.le_refl _) (.int .i64 xs[k].at_)).setCell (p := ⟨w.heap.size, k * 4 + 2, none⟩) (Nat.le_refl _) (.int .i64 xs[k].old_)).setCell (p := ⟨w.heap.size, k * 4 + 3, none⟩) (Nat.le_refl _) (.int .i64 xs[k].new_))
      clear hc hcells hF hg hg2 hcells2 hF1 c0 c1 c2 c3 e0 e1 e2 e3 l0 l1 l2 l3 hB1 hB2
      unfold WordOp.val
      go_wp2
      go_roundw
      case rel => exact ⟨k+1, by omega, by go_num, by rw [Nat.add_mul]; exact s3, hB3⟩
      case measure => simp [intOf]; omega
    · go_wp2
      go_ret
      exact ⟨_, rfl, hF.done (by rw [HL.out]; omega), hB⟩

theorem eqWordOpS_c (v u : Value) (xs : List WordOp) (w : World) (h : WordOps w v xs) (g : WordOps w u xs) :
    Calls Try.prog 22 #[v, u] w fun e w' => e = .returned (.bool true) ∧ Below w.heap.size w w' := by
  obtain ⟨ad, cap, rfl, hl, hm, hc⟩ := h.open
  obtain ⟨ad2, cap2, rfl, hl2, hm2, hc2⟩ := g.open
  clear h g
  have hlen : xs.length ≤ 9223372036854775807 := by omega
  go_enter Try.func22, Try.ntmps22
  go_wp2
  go_loopw [5] (fun i wr => ∃ k : Nat, k ≤ xs.length ∧ i = .int .i64 k ∧ Below w.heap.size w wr) (fun i _ => xs.length - (intOf i).toNat)
  case atStart => exact ⟨0, by omega, rfl, Below.refl _ _⟩
  case round =>
    obtain ⟨k, hk, rfl, hB⟩ := hrel
    by_cases hlt : k < xs.length
    · obtain ⟨bb, off, rfl, hbs, c0, c1, c2, c3⟩ := hc k hlt
      obtain ⟨bb2, off2, rfl, hbs2, d0, d1, d2, d3⟩ := hc2 k hlt
      have kc : ∀ o, wr.cell? ⟨bb, o, none⟩ = w.cell? ⟨bb, o, none⟩ := fun o => hB.cell (p := ⟨bb, o, none⟩) hbs
      have kd : ∀ o, wr.cell? ⟨bb2, o, none⟩ = w.cell? ⟨bb2, o, none⟩ := fun o => hB.cell (p := ⟨bb2, o, none⟩) hbs2
      rw [← kc] at c0 c1 c2 c3
      rw [← kd] at d0 d1 d2 d3
      clear hc hc2 kc kd
      go_wp2
      go_still_tail 8, (by kernel_rfl)
      go_wp2_with fail
      refine (eqWordOp_c xs[k] _).mono ?_
      rintro e w1 ⟨rfl, hB1⟩
      go_wp2
      go_roundw
      case rel => exact ⟨k+1, by omega, by go_num, hB.drew.trans (hB1.mono (by have := hB.size; simp; omega))⟩
      case measure => simp [intOf]; omega
    · go_wp2
      go_ret
      exact ⟨rfl, hB⟩

theorem markWordOpS_c (base e : Nat) (v : Value) (n : Nat) (cs : List Value) (k : Int) (w : World) (hn : n ≤ 1099511627776) (h0 : 0 ≤ k) (h1 : k ≤ 1125899906842624) (h : w.ownsRow base e 4 v n cs) :
    Calls Try.prog 23 #[v, .int .i64 k] w fun r w' => r = .returned (.int .i64 (k + 4 * n)) ∧ w'.ownsRow base e 4 v n (markV markI (n * 4) k) ∧ w.grownBy w' v.ownBlock := by
  obtain ⟨a, cap, rfl, hl, hm⟩ := owns_form h
  have hF := Fills.start (l := markV markI (n * 4) k) h (by rw [markV_length])
  clear h
  go_enter Try.func23, Try.ntmps23
  go_wp2
  go_loopw [1, 5] (fun kk i wr => ∃ j : Nat, j ≤ n ∧ i = .int .i64 j ∧ kk = .int .i64 (k + 4 * j) ∧ Fills wr base e 4 (.slice a n cap) n (markV markI (n * 4) k) (j * 4) ∧ w.grownBy wr (Value.slice a n cap).ownBlock) (fun _ i _ => n - (intOf i).toNat)
  case atStart => exact ⟨0, by omega, rfl, by simp, by rw [Nat.zero_mul]; exact hF, World.grownBy.refl _ _⟩
  case round =>
    clear hF
    obtain ⟨j, hj, rfl, rfl, hF, hG⟩ := hrel
    by_cases hlt : j < n
    · have hm4 : (markV markI (n * 4) k).length = (n * 4) := markV_length _ _ _
      obtain ⟨g, rfl, hbg, hgs, hcells⟩ := hF.at (by rw [hm4]) (by omega)
      obtain ⟨⟨u0, hu0⟩, hf0⟩ := hcells (j * 4) (by omega)
      obtain ⟨⟨u1, hu1⟩, hf1⟩ := hcells (j * 4 + 1) (by omega)
      obtain ⟨⟨u2, hu2⟩, hf2⟩ := hcells (j * 4 + 2) (by omega)
      obtain ⟨⟨u3, hu3⟩, hf3⟩ := hcells (j * 4 + 3) (by omega)
      have s0 := hF.store (.int .i64 (k + 4 * j)) (by rw [markV_get _ _ _ _ (by omega)]; simp [markI] <;> omega)
      have s1 := s0.1.store (.int .i64 (k + 4 * j + 1)) (by rw [markV_get _ _ _ _ (by omega)]; simp [markI] <;> omega)
      have s2 := s1.1.store (.int .i64 (k + 4 * j + 1 + 1)) (by rw [markV_get _ _ _ _ (by omega)]; simp [markI] <;> omega)
      have s3 := s2.1.store (.int .i64 (k + 4 * j + 1 + 1 + 1)) (by rw [markV_get _ _ _ _ (by omega)]; simp [markI] <;> omega)
      have hG4 := grownBy_trans hG (grownBy_trans (grownBy_trans (grownBy_trans s0.2 s1.2) s2.2) s3.2)
      have hF4 := s3.1
      clear s0 s1 s2 s3 hcells hm4 hF hG
      go_wp2
      go_roundw
      case rel => exact ⟨j+1, by omega, by go_num, by go_num, by rw [Nat.add_mul]; exact hF4, hG4⟩
      case measure => simp [intOf]; omega
    · go_wp2
      go_ret
      exact ⟨ret_int (by omega), hF.done (by rw [markV_length]; omega), hG⟩

theorem heldWordOpS_c (v : Value) (n : Nat) (k : Int) (w : World) (hn : n ≤ 1099511627776) (h0 : 0 ≤ k) (h1 : k ≤ 1125899906842624) (h : Flat w v n 4 (markV markI (n * 4) k)) :
    Calls Try.prog 31 #[v, .int .i64 k] w fun r w' => r = .returned (.int .i64 (k + 4 * n)) ∧ Below w.heap.size w w' := by
  obtain ⟨a, cap, rfl, hl, hm, hc⟩ := flat_cells h
  clear h
  go_enter Try.func31, Try.ntmps31
  go_wp2
  go_loopw [1, 5] (fun kk i wr => ∃ j : Nat, j ≤ n ∧ i = .int .i64 j ∧ kk = .int .i64 (k + 4 * j) ∧ w = wr) (fun _ i _ => n - (intOf i).toNat)
  case atStart => exact ⟨0, by omega, rfl, by simp, by simp⟩
  case round =>
    obtain ⟨j, hj, rfl, rfl, rfl⟩ := hrel
    by_cases hlt : j < n
    · obtain ⟨b, off, rfl, hbs, hcc⟩ := hc j hlt
      have e0 : w.cell? ⟨b, off + j * 4, none⟩ = some (.int .i64 (k + 4 * j)) := by have := hcc 0 (by omega); rw [markV_get _ _ _ _ (by omega)] at this; refine this.trans ?_; simp [markI] <;> omega
      have e1 : w.cell? ⟨b, off + j * 4 + 1, none⟩ = some (.int .i64 (k + 4 * j + 1)) := by have := hcc 1 (by omega); rw [markV_get _ _ _ _ (by omega)] at this; refine this.trans ?_; simp [markI] <;> omega
      have e2 : w.cell? ⟨b, off + j * 4 + 2, none⟩ = some (.int .i64 (k + 4 * j + 1 + 1)) := by have := hcc 2 (by omega); rw [markV_get _ _ _ _ (by omega)] at this; refine this.trans ?_; simp [markI] <;> omega
      have e3 : w.cell? ⟨b, off + j * 4 + 3, none⟩ = some (.int .i64 (k + 4 * j + 1 + 1 + 1)) := by have := hcc 3 (by omega); rw [markV_get _ _ _ _ (by omega)] at this; refine this.trans ?_; simp [markI] <;> omega
      clear hc hcc
      go_wp2
      go_roundw
      case rel => exact ⟨j+1, by omega, by go_num, by go_num, trivial⟩
      case measure => simp [intOf]; omega
    · go_wp2
      go_ret
      exact ⟨ret_int (by omega), Below.refl _ _⟩

theorem szWordOpS_c (a : Option Addr) (n cap : Nat) (k : Int) (w : World) (hn : n ≤ 9223372036854775807) (h0 : 0 ≤ k) (h1 : k ≤ 1048576) :
    Calls Try.prog 18 #[.slice a n cap, .int .i64 k] w fun e w' => e = .returned (.int .i64 (if k < n then -1 else k - n)) ∧ w = w' := by
  go_enter Try.func18, Try.ntmps18
  go_wp2
  all_goals go_ret
  all_goals exact ⟨rfl, rfl⟩

end Go.Proofs.Ytfhkngmankmehaa
