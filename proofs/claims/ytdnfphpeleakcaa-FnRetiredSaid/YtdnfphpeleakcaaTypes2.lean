import Derived.Test.YtdnfphpeleakcaaProg
import Derived.Test.YtdnfphpeleakcaaBase
namespace Go.Proofs.Ytdnfphpeleakcaa
open Go.RowKit Go.Proofs Go.Own
set_option maxRecDepth 100000

theorem infoInt : (Try.prog.info? 3).map (fun i => (i.zero, i.size, i.bytes)) = some (some (.int .i64 0), 1, 8) := by kernel_rfl

theorem toIntS_c (v : Value) (xs : List Int) (w : World) (hx : xs.length ≤ 1048576) (h : Ints w v xs) :
    Calls Try.prog 58 #[v] w fun e w' => ∃ v', e = .returned v' ∧ w'.ownsRow w.heap.size 3 1 v' xs.length (xs.flatMap encI) ∧ Below w.heap.size w w' := by
  obtain ⟨ad, cap, rfl, hl, hm, hc⟩ := h.open
  clear h
  have hlen : xs.length ≤ 9223372036854775807 := by omega
  obtain ⟨i0, hi, hz0, hz1, hz2⟩ := info_parts infoInt
  have hL : (xs.flatMap encI).length = xs.length * 1 := flatMap_len _ 1 (fun _ => rfl) xs
  have hlk : ∀ k, (hk : k < xs.length) → ∀ j, j < 1 → (xs.flatMap encI)[k * 1 + j]? = (encI xs[k])[j]? := fun k hk j hj => flatMap_get encI 1 (fun _ => rfl) xs k hk j hj
  generalize xs.flatMap encI = L at *
  have HL := hid hL
  clear hL
  go_enter Try.func58, Try.ntmps58
  go_wp2_with (at_make; refine wpList_make_full _ rfl _ _ 25 rfl (w.heap.size) 3 i0 (.int .i64 0) 1 Try.underlying25 hi hz0 hz1 _ _ _ _ xs.length rfl rfl rfl rfl (by rw [hz2]; omega) (by unfold maxLen; omega) (Nat.le_refl _) ?_)
  intro w1 hown hgrow
  have hB := (Below.refl w.heap.size w).grown hgrow (Nat.le_refl _) (by simp)
  have hF := Fills.start (l := L) hown HL.out
  clear hown hgrow
  go_wp2
  go_loopw [4] (fun i wr => ∃ k : Nat, k ≤ xs.length ∧ i = .int .i64 k ∧ Fills wr w.heap.size 3 1 (.slice (some ⟨w.heap.size, 0, none⟩) xs.length xs.length) xs.length L (k) ∧ Below w.heap.size w wr) (fun i _ => xs.length - (intOf i).toNat)
  case atStart => exact ⟨0, by omega, rfl, hF, hB⟩
  case round =>
    clear hF hB
    obtain ⟨k, hk, rfl, hF, hB⟩ := hrel
    by_cases hlt : k < xs.length
    · obtain ⟨bb, off, rfl, hbs, c0⟩ := hc k hlt
      have e0 : wr.cell? ⟨bb, off + k, none⟩ = some (.int .i64 xs[k]) := by rw [hB.cell (p := ⟨bb, off + k, none⟩) hbs]; exact c0
      obtain ⟨g, hg, hbg, hgs, hcells⟩ := hF.at HL.out (by rw [HL.out]; omega)
      obtain rfl := (Addr.mk.inj (Option.some.inj hg)).1
      obtain ⟨⟨u0, hu0⟩, hf0⟩ := hcells k (by rw [HL.out]; omega)
      have l0 : L[k]? = some (.int .i64 xs[k]) := by have := hlk k hlt 0 (by omega); rw [Nat.mul_one, Nat.add_zero] at this; exact this
      have hF2 := (hF.store _ l0).1
      have hB2 := hB.setCell (p := ⟨w.heap.size, k, none⟩) (Nat.le_refl _) (.int .i64 xs[k])
      clear hc c0 l0 hcells hF hg
      go_wp2
      go_roundw
      case rel => exact ⟨k+1, by omega, by go_num, hF2, hB2⟩
      case measure => simp [intOf]; omega
    · go_wp2
      go_ret
      exact ⟨_, rfl, hF.done (by rw [HL.out]; omega), hB⟩

theorem eqIntS_c (v u : Value) (xs : List Int) (w : World) (h : Ints w v xs) (g : Ints w u xs) :
    Calls Try.prog 63 #[v, u] w fun e w' => e = .returned (.bool true) ∧ Below w.heap.size w w' := by
  obtain ⟨ad, cap, rfl, hl, hm, hc⟩ := h.open
  obtain ⟨ad2, cap2, rfl, hl2, hm2, hc2⟩ := g.open
  clear h g
  have hlen : xs.length ≤ 9223372036854775807 := by omega
  go_enter Try.func63, Try.ntmps63
  go_wp2
  go_loopw [5] (fun i wr => ∃ k : Nat, k ≤ xs.length ∧ i = .int .i64 k ∧ Below w.heap.size w wr) (fun i _ => xs.length - (intOf i).toNat)
  case atStart => exact ⟨0, by omega, rfl, Below.refl _ _⟩
  case round =>
    obtain ⟨k, hk, rfl, hB⟩ := hrel
    by_cases hlt : k < xs.length
    · obtain ⟨bb, off, rfl, hbs, c0⟩ := hc k hlt
      obtain ⟨bb2, off2, rfl, hbs2, d0⟩ := hc2 k hlt
      have kc : ∀ o, wr.cell? ⟨bb, o, none⟩ = w.cell? ⟨bb, o, none⟩ := fun o => hB.cell (p := ⟨bb, o, none⟩) hbs
      have kd : ∀ o, wr.cell? ⟨bb2, o, none⟩ = w.cell? ⟨bb2, o, none⟩ := fun o => hB.cell (p := ⟨bb2, o, none⟩) hbs2
      rw [← kc] at c0
      rw [← kd] at d0
      clear hc hc2 kc kd
      go_wp2
      go_quiet (fail)
      go_wp2
      go_roundw
      case rel => exact ⟨k+1, by omega, by go_num, below_drewN hB _⟩
      case measure => simp [intOf]; omega
    · go_wp2
      go_ret
      exact ⟨rfl, hB⟩

theorem markIntS_c (base e : Nat) (v : Value) (n : Nat) (cs : List Value) (k : Int) (w : World) (hn : n ≤ 1099511627776) (h0 : 0 ≤ k) (h1 : k ≤ 1125899906842624) (h : w.ownsRow base e 1 v n cs) :
    Calls Try.prog 67 #[v, .int .i64 k] w fun r w' => r = .returned (.int .i64 (k + n)) ∧ w'.ownsRow base e 1 v n (markV markI n k) ∧ w.grownBy w' v.ownBlock := by
  obtain ⟨a, cap, rfl, hl, hm⟩ := owns_form h
  have hF := Fills.start (l := markV markI n k) h (by rw [markV_length]; omega)
  clear h
  go_enter Try.func67, Try.ntmps67
  go_wp2
  go_loopw [1, 5] (fun kk i wr => ∃ j : Nat, j ≤ n ∧ i = .int .i64 j ∧ kk = .int .i64 (k + j) ∧ Fills wr base e 1 (.slice a n cap) n (markV markI n k) (j) ∧ w.grownBy wr (Value.slice a n cap).ownBlock) (fun _ i _ => n - (intOf i).toNat)
  case atStart => exact ⟨0, by omega, rfl, by simp, hF, World.grownBy.refl _ _⟩
  case round =>
    clear hF
    obtain ⟨j, hj, rfl, rfl, hF, hG⟩ := hrel
    by_cases hlt : j < n
    · have hm4 : (markV markI n k).length = n := markV_length _ _ _
      obtain ⟨g, rfl, hbg, hgs, hcells⟩ := hF.at (by rw [hm4]; omega) (by omega)
      obtain ⟨⟨u0, hu0⟩, hf0⟩ := hcells (j) (by omega)
      have s0 := hF.store (.int .i64 (k + j)) (by rw [markV_get _ _ _ _ (by omega)]; simp [markI] <;> omega)
      have hG4 := grownBy_trans hG s0.2
      have hF4 := s0.1
      clear s0 hcells hm4 hF hG
      go_wp2
      go_roundw
      case rel => exact ⟨j+1, by omega, by go_num, by go_num, hF4, hG4⟩
      case measure => simp [intOf]; omega
    · go_wp2
      go_ret
      exact ⟨ret_int (by omega), hF.done (by rw [markV_length]; omega), hG⟩

theorem heldIntS_c (v : Value) (n : Nat) (k : Int) (w : World) (hn : n ≤ 1099511627776) (h0 : 0 ≤ k) (h1 : k ≤ 1125899906842624) (h : Flat w v n 1 (markV markI n k)) :
    Calls Try.prog 70 #[v, .int .i64 k] w fun r w' => r = .returned (.int .i64 (k + n)) ∧ Below w.heap.size w w' := by
  obtain ⟨a, cap, rfl, hl, hm, hc⟩ := flat_cells h
  clear h
  go_enter Try.func70, Try.ntmps70
  go_wp2
  go_loopw [1, 5] (fun kk i wr => ∃ j : Nat, j ≤ n ∧ i = .int .i64 j ∧ kk = .int .i64 (k + j) ∧ w = wr) (fun _ i _ => n - (intOf i).toNat)
  case atStart => exact ⟨0, by omega, rfl, by simp, by simp⟩
  case round =>
    obtain ⟨j, hj, rfl, rfl, rfl⟩ := hrel
    by_cases hlt : j < n
    · obtain ⟨b, off, rfl, hbs, hcc⟩ := hc j hlt
      have e0 : w.cell? ⟨b, off + j, none⟩ = some (.int .i64 (k + j)) := by have := hcc 0 (by omega); rw [Nat.mul_one, Nat.add_zero] at this; rw [markV_get _ _ _ _ (by omega)] at this; refine this.trans ?_; simp [markI] <;> omega
      clear hc hcc
      go_wp2
      go_roundw
      case rel => exact ⟨j+1, by omega, by go_num, by go_num, trivial⟩
      case measure => simp [intOf]; omega
    · go_wp2
      go_ret
      exact ⟨ret_int (by omega), Below.refl _ _⟩

theorem szIntS_c (a : Option Addr) (n cap : Nat) (k : Int) (w : World) (hn : n ≤ 9223372036854775807) (h0 : 0 ≤ k) (h1 : k ≤ 1048576) :
    Calls Try.prog 50 #[.slice a n cap, .int .i64 k] w fun e w' => e = .returned (.int .i64 (if k < n then -1 else k - n)) ∧ w = w' := by
  go_enter Try.func50, Try.ntmps50
  go_wp2
  all_goals go_ret
  all_goals exact ⟨rfl, rfl⟩

theorem toIntA3_c (a0 a1 a2 : Int) (w : World) :
    Calls Try.prog 110 #[.agg #[.int .i64 a0, .int .i64 a1, .int .i64 a2]] w fun e w' => e = .returned (.agg #[.int .i64 a0, .int .i64 a1, .int .i64 a2]) ∧ Below w.heap.size w w' := by
  go_enter Try.func110, Try.ntmps110
  go_wp2
  go_loopw [4] (fun i wr => ∃ (k : Nat) (b0 b1 b2 : Int), k ≤ 3 ∧ i = .int .i64 k ∧ (0 < k → b0 = a0) ∧ (1 < k → b1 = a1) ∧ (2 < k → b2 = a2) ∧ wr = ((w.alloc (.cells #[.int .i64 a0, .int .i64 a1, .int .i64 a2] 62)).alloc (.cells #[.int .i64 0, .int .i64 0, .int .i64 0] 62)).alloc (.cells #[.int .i64 b0, .int .i64 b1, .int .i64 b2] 62)) (fun i _ => 3 - (intOf i).toNat)
  case atStart => exact ⟨0, 0, 0, 0, by omega, rfl, by omega, by omega, by omega, rfl⟩
  case round =>
    obtain ⟨k, b0, b1, b2, hk, rfl, e0, e1, e2, rfl⟩ := hrel
    obtain rfl | rfl | rfl | rfl : k = 0 ∨ k = 1 ∨ k = 2 ∨ k = 3 := by omega
    · clear e0 e1 e2
      go_wp2
      go_roundw
      case rel => exact ⟨1, a0, b1, b2, by omega, rfl, fun _ => rfl, by omega, by omega, rfl⟩
      case measure => simp [intOf]
    · obtain rfl := e0 (by omega)
      clear e0 e1 e2
      go_wp2
      go_roundw
      case rel => exact ⟨2, b0, a1, b2, by omega, rfl, fun _ => rfl, fun _ => rfl, by omega, rfl⟩
      case measure => simp [intOf]
    · obtain rfl := e0 (by omega)
      obtain rfl := e1 (by omega)
      clear e0 e1 e2
      go_wp2
      go_roundw
      case rel => exact ⟨3, b0, b1, a2, by omega, rfl, fun _ => rfl, fun _ => rfl, fun _ => rfl, rfl⟩
      case measure => simp [intOf]
    · obtain rfl := e0 (by omega)
      obtain rfl := e1 (by omega)
      obtain rfl := e2 (by omega)
      clear e0 e1 e2
      go_wp2
      exact bodyPost_ret (v := .agg #[.int .i64 b0, .int .i64 b1, .int .i64 b2]) (by simp [results, Try.results110, go_sem]) rfl ⟨rfl, (by repeat (first | exact Below.refl _ _ | refine Below.alloc ?_ (by simp; try omega) _))⟩

theorem eqIntA3_c (a0 a1 a2 : Int) (w : World) :
    Calls Try.prog 111 #[.agg #[.int .i64 a0, .int .i64 a1, .int .i64 a2], .agg #[.int .i64 a0, .int .i64 a1, .int .i64 a2]] w fun e w' => e = .returned (.bool true) ∧ Below w.heap.size w w' := by
  go_enter Try.func111, Try.ntmps111
  go_wp2
  go_loopw [5] (fun i wr => ∃ (k : Nat), k ≤ 3 ∧ i = .int .i64 k ∧ Below w.heap.size w wr ∧ wr.cell? ⟨w.heap.size, 0, none⟩ = some (.int .i64 a0) ∧ wr.cell? ⟨w.heap.size, 1, none⟩ = some (.int .i64 a1) ∧ wr.cell? ⟨w.heap.size, 2, none⟩ = some (.int .i64 a2) ∧ wr.cell? ⟨w.heap.size + 1, 0, none⟩ = some (.int .i64 a0) ∧ wr.cell? ⟨w.heap.size + 1, 1, none⟩ = some (.int .i64 a1) ∧ wr.cell? ⟨w.heap.size + 1, 2, none⟩ = some (.int .i64 a2)) (fun i _ => 3 - (intOf i).toNat)
  case atStart => exact ⟨0, by omega, rfl, (by repeat (first | exact Below.refl _ _ | refine Below.alloc ?_ (by simp; try omega) _)), by simp [go_sem], by simp [go_sem], by simp [go_sem], by simp [go_sem], by simp [go_sem], by simp [go_sem]⟩
  case round =>
    obtain ⟨k, hk, rfl, hB, c0, c1, c2, d0, d1, d2⟩ := hrel
    obtain rfl | rfl | rfl | rfl : k = 0 ∨ k = 1 ∨ k = 2 ∨ k = 3 := by omega
    · go_wp2
      go_quiet (fail)
      go_wp2
      go_roundw
      case rel => exact ⟨1, by omega, rfl, below_drewN hB _, c0, c1, c2, d0, d1, d2⟩
      case measure => simp [intOf]
    · go_wp2
      go_quiet (fail)
      go_wp2
      go_roundw
      case rel => exact ⟨2, by omega, rfl, below_drewN hB _, c0, c1, c2, d0, d1, d2⟩
      case measure => simp [intOf]
    · go_wp2
      go_quiet (fail)
      go_wp2
      go_roundw
      case rel => exact ⟨3, by omega, rfl, below_drewN hB _, c0, c1, c2, d0, d1, d2⟩
      case measure => simp [intOf]
    · go_wp2
      go_ret
      exact ⟨rfl, hB⟩

theorem eqIntA4_c (a0 a1 a2 a3 : Int) (w : World) :
    Calls Try.prog 36 #[.agg #[.int .i64 a0, .int .i64 a1, .int .i64 a2, .int .i64 a3], .agg #[.int .i64 a0, .int .i64 a1, .int .i64 a2, .int .i64 a3]] w fun e w' => e = .returned (.bool true) ∧ Below w.heap.size w w' := by
  go_enter Try.func36, Try.ntmps36
  go_wp2
  go_loopw [5] (fun i wr => ∃ (k : Nat), k ≤ 4 ∧ i = .int .i64 k ∧ Below w.heap.size w wr ∧ wr.cell? ⟨w.heap.size, 0, none⟩ = some (.int .i64 a0) ∧ wr.cell? ⟨w.heap.size, 1, none⟩ = some (.int .i64 a1) ∧ wr.cell? ⟨w.heap.size, 2, none⟩ = some (.int .i64 a2) ∧ wr.cell? ⟨w.heap.size, 3, none⟩ = some (.int .i64 a3) ∧ wr.cell? ⟨w.heap.size + 1, 0, none⟩ = some (.int .i64 a0) ∧ wr.cell? ⟨w.heap.size + 1, 1, none⟩ = some (.int .i64 a1) ∧ wr.cell? ⟨w.heap.size + 1, 2, none⟩ = some (.int .i64 a2) ∧ wr.cell? ⟨w.heap.size + 1, 3, none⟩ = some (.int .i64 a3)) (fun i _ => 4 - (intOf i).toNat)
  case atStart => exact ⟨0, by omega, rfl, (by repeat (first | exact Below.refl _ _ | refine Below.alloc ?_ (by simp; try omega) _)), by simp [go_sem], by simp [go_sem], by simp [go_sem], by simp [go_sem], by simp [go_sem], by simp [go_sem], by simp [go_sem], by simp [go_sem]⟩
  case round =>
    obtain ⟨k, hk, rfl, hB, c0, c1, c2, c3, d0, d1, d2, d3⟩ := hrel
    obtain rfl | rfl | rfl | rfl | rfl : k = 0 ∨ k = 1 ∨ k = 2 ∨ k = 3 ∨ k = 4 := by omega
    · go_wp2
      go_quiet (fail)
      go_wp2
      go_roundw
      case rel => exact ⟨1, by omega, rfl, below_drewN hB _, c0, c1, c2, c3, d0, d1, d2, d3⟩
      case measure => simp [intOf]
    · go_wp2
      go_quiet (fail)
      go_wp2
      go_roundw
      case rel => exact ⟨2, by omega, rfl, below_drewN hB _, c0, c1, c2, c3, d0, d1, d2, d3⟩
      case measure => simp [intOf]
    · go_wp2
      go_quiet (fail)
      go_wp2
      go_roundw
      case rel => exact ⟨3, by omega, rfl, below_drewN hB _, c0, c1, c2, c3, d0, d1, d2, d3⟩
      case measure => simp [intOf]
    · go_wp2
      go_quiet (fail)
      go_wp2
      go_roundw
      case rel => exact ⟨4, by omega, rfl, below_drewN hB _, c0, c1, c2, c3, d0, d1, d2, d3⟩
      case measure => simp [intOf]
    · go_wp2
      go_ret
      exact ⟨rfl, hB⟩

structure Block where
  gen_ : Int
  free_ : Bool
  words0_ : Int
  words1_ : Int
  words2_ : Int

def Block.enc (o : Block) : List Value := [.int .i64 o.gen_, .bool o.free_, .int .i64 o.words0_, .int .i64 o.words1_, .int .i64 o.words2_]

def Block.val (o : Block) : Value := .agg #[.int .i64 o.gen_, .bool o.free_, .int .i64 o.words0_, .int .i64 o.words1_, .int .i64 o.words2_]

/-- What a walk over a slice of these is told. -/
def Blocks (w : World) (v : Value) (xs : List Block) : Prop := Flat w v xs.length 5 (xs.flatMap Block.enc)

theorem Blocks.below {w w' : World} {v : Value} {xs : List Block} (h : Blocks w v xs) (hb : Below w.heap.size w w') : Blocks w' v xs := Flat.below h hb

theorem Blocks.open {w : World} {v : Value} {xs : List Block} (h : Blocks w v xs) : ∃ a cap, v = .slice a xs.length cap ∧ xs.length ≤ cap ∧ cap ≤ 9223372036854775807 ∧
    ∀ k, (hk : k < xs.length) → ∃ b off, a = some ⟨b, off, none⟩ ∧ b < w.heap.size ∧ w.cell? ⟨b, off + k * 5, none⟩ = some (.int .i64 xs[k].gen_) ∧ w.cell? ⟨b, off + k * 5 + 1, none⟩ = some (.bool xs[k].free_) ∧ w.cell? ⟨b, off + k * 5 + 2, none⟩ = some (.int .i64 xs[k].words0_) ∧ w.cell? ⟨b, off + k * 5 + 3, none⟩ = some (.int .i64 xs[k].words1_) ∧ w.cell? ⟨b, off + k * 5 + 4, none⟩ = some (.int .i64 xs[k].words2_) := by
  obtain ⟨a, cap, e, h1, h2, h3⟩ := flat_elem (f := Block.enc) (sz := 5) (fun _ => rfl) h
  refine ⟨a, cap, e, h1, h2, fun k hk => ?_⟩
  obtain ⟨b, off, ha, hs, hc⟩ := h3 k hk
  exact ⟨b, off, ha, hs, hc 0 (by omega), hc 1 (by omega), hc 2 (by omega), hc 3 (by omega), hc 4 (by omega)⟩

theorem toBlock_c (o : Block) (w : World) :
    Calls Try.prog 104 #[o.val] w fun e w' => e = .returned o.val ∧ Below w.heap.size w w' := by
  obtain ⟨a0, a1, a2, a3, a4⟩ := o
  unfold Block.val
  dsimp only
  go_enter Try.func104, Try.ntmps104
  go_wp2_with fail
  refine (toIntA3_c a2 a3 a4 _).mono ?_
  rintro e w2 ⟨rfl, hB⟩
  have c0 : w2.cell? ⟨w.heap.size + 1 + 1, 0, none⟩ = some (.int .i64 a0) := by rw [hB.cell (p := ⟨w.heap.size + 1 + 1, 0, none⟩) (by simp)]; simp [go_sem]
  have cf0 : w2.frozen? ⟨w.heap.size + 1 + 1, 0, none⟩ = false := by rw [hB.frozen (p := ⟨w.heap.size + 1 + 1, 0, none⟩) (by simp)]; simp [go_sem]
  have c1 : w2.cell? ⟨w.heap.size + 1 + 1, 1, none⟩ = some (.bool a1) := by rw [hB.cell (p := ⟨w.heap.size + 1 + 1, 1, none⟩) (by simp)]; simp [go_sem]
  have cf1 : w2.frozen? ⟨w.heap.size + 1 + 1, 1, none⟩ = false := by rw [hB.frozen (p := ⟨w.heap.size + 1 + 1, 1, none⟩) (by simp)]; simp [go_sem]
  have c2 : w2.cell? ⟨w.heap.size + 1 + 1, 2, none⟩ = some (.int .i64 0) := by rw [hB.cell (p := ⟨w.heap.size + 1 + 1, 2, none⟩) (by simp)]; simp [go_sem]
  have cf2 : w2.frozen? ⟨w.heap.size + 1 + 1, 2, none⟩ = false := by rw [hB.frozen (p := ⟨w.heap.size + 1 + 1, 2, none⟩) (by simp)]; simp [go_sem]
  have c3 : w2.cell? ⟨w.heap.size + 1 + 1, 3, none⟩ = some (.int .i64 0) := by rw [hB.cell (p := ⟨w.heap.size + 1 + 1, 3, none⟩) (by simp)]; simp [go_sem]
  have cf3 : w2.frozen? ⟨w.heap.size + 1 + 1, 3, none⟩ = false := by rw [hB.frozen (p := ⟨w.heap.size + 1 + 1, 3, none⟩) (by simp)]; simp [go_sem]
  have c4 : w2.cell? ⟨w.heap.size + 1 + 1, 4, none⟩ = some (.int .i64 0) := by rw [hB.cell (p := ⟨w.heap.size + 1 + 1, 4, none⟩) (by simp)]; simp [go_sem]
  have cf4 : w2.frozen? ⟨w.heap.size + 1 + 1, 4, none⟩ = false := by rw [hB.frozen (p := ⟨w.heap.size + 1 + 1, 4, none⟩) (by simp)]; simp [go_sem]
  have d0 : w2.cell? ⟨w.heap.size + 1, 0, none⟩ = some (.int .i64 0) := by rw [hB.cell (p := ⟨w.heap.size + 1, 0, none⟩) (by simp)]; simp [go_sem]
  have df0 : w2.frozen? ⟨w.heap.size + 1, 0, none⟩ = false := by rw [hB.frozen (p := ⟨w.heap.size + 1, 0, none⟩) (by simp)]; simp [go_sem]
  have d1 : w2.cell? ⟨w.heap.size + 1, 1, none⟩ = some (.bool false) := by rw [hB.cell (p := ⟨w.heap.size + 1, 1, none⟩) (by simp)]; simp [go_sem]
  have df1 : w2.frozen? ⟨w.heap.size + 1, 1, none⟩ = false := by rw [hB.frozen (p := ⟨w.heap.size + 1, 1, none⟩) (by simp)]; simp [go_sem]
  have d2 : w2.cell? ⟨w.heap.size + 1, 2, none⟩ = some (.int .i64 0) := by rw [hB.cell (p := ⟨w.heap.size + 1, 2, none⟩) (by simp)]; simp [go_sem]
  have df2 : w2.frozen? ⟨w.heap.size + 1, 2, none⟩ = false := by rw [hB.frozen (p := ⟨w.heap.size + 1, 2, none⟩) (by simp)]; simp [go_sem]
  have d3 : w2.cell? ⟨w.heap.size + 1, 3, none⟩ = some (.int .i64 0) := by rw [hB.cell (p := ⟨w.heap.size + 1, 3, none⟩) (by simp)]; simp [go_sem]
  have df3 : w2.frozen? ⟨w.heap.size + 1, 3, none⟩ = false := by rw [hB.frozen (p := ⟨w.heap.size + 1, 3, none⟩) (by simp)]; simp [go_sem]
  have d4 : w2.cell? ⟨w.heap.size + 1, 4, none⟩ = some (.int .i64 0) := by rw [hB.cell (p := ⟨w.heap.size + 1, 4, none⟩) (by simp)]; simp [go_sem]
  have df4 : w2.frozen? ⟨w.heap.size + 1, 4, none⟩ = false := by rw [hB.frozen (p := ⟨w.heap.size + 1, 4, none⟩) (by simp)]; simp [go_sem]
  have hB2 : Below w.heap.size w w2 := Below.trans (by repeat (first | exact Below.refl _ _ | refine Below.alloc ?_ (by simp; try omega) _)) (hB.mono (by simp; omega))
  clear hB
  go_wp2
  refine bodyPost_ret (v := .agg #[.int .i64 a0, .bool a1, .int .i64 a2, .int .i64 a3, .int .i64 a4]) ?_ rfl ⟨rfl, ?_⟩
  · simp [results, Try.results104, go_sem, d0, d1, d2, d3, d4]
  · repeat (refine Below.setCell ?_ (by simp; try omega) _)
    exact hB2

theorem eqBlock_c (o : Block) (w : World) :
    Calls Try.prog 105 #[o.val, o.val] w fun e w' => e = .returned (.bool true) ∧ Below w.heap.size w w' := by
  obtain ⟨a0, a1, a2, a3, a4⟩ := o
  unfold Block.val
  dsimp only
  go_enter Try.func105, Try.ntmps105
  go_wp2_with fail
  refine (eqIntA3_c a2 a3 a4 _).mono ?_
  rintro e w2 ⟨rfl, hB⟩
  have hB2 : Below w.heap.size w w2 := Below.trans (by repeat (first | exact Below.refl _ _ | refine Below.alloc ?_ (by simp; try omega) _)) (hB.mono (by simp; try omega))
  clear hB
  go_wp2
  go_ret
  exact ⟨rfl, hB2⟩

theorem infoBlock : (Try.prog.info? 64).map (fun i => (i.zero, i.size, i.bytes)) = some (some (.agg #[.int .i64 0, .bool false, .int .i64 0, .int .i64 0, .int .i64 0]), 5, 40) := by kernel_rfl

theorem toBlockS_c (v : Value) (xs : List Block) (w : World) (hx : xs.length ≤ 1048576) (h : Blocks w v xs) :
    Calls Try.prog 88 #[v] w fun e w' => ∃ v', e = .returned v' ∧ w'.ownsRow w.heap.size 64 5 v' xs.length (xs.flatMap Block.enc) ∧ Below w.heap.size w w' := by
  obtain ⟨ad, cap, rfl, hl, hm, hc⟩ := h.open
  clear h
  have hlen : xs.length ≤ 9223372036854775807 := by omega
  obtain ⟨i0, hi, hz0, hz1, hz2⟩ := info_parts infoBlock
  have hL : (xs.flatMap Block.enc).length = xs.length * 5 := flatMap_len _ 5 (fun _ => rfl) xs
  have hlk : ∀ k, (hk : k < xs.length) → ∀ j, j < 5 → (xs.flatMap Block.enc)[k * 5 + j]? = (Block.enc xs[k])[j]? := fun k hk j hj => flatMap_get Block.enc 5 (fun _ => rfl) xs k hk j hj
  generalize xs.flatMap Block.enc = L at *
  have HL := hid hL
  clear hL
  go_enter Try.func88, Try.ntmps88
  go_wp2_with (at_make; refine wpList_make_full _ rfl _ _ 24 rfl (w.heap.size) 64 i0 (.agg #[.int .i64 0, .bool false, .int .i64 0, .int .i64 0, .int .i64 0]) 5 Try.underlying24 hi hz0 hz1 _ _ _ _ xs.length rfl rfl rfl rfl (by rw [hz2]; omega) (by unfold maxLen; omega) (Nat.le_refl _) ?_)
  intro w1 hown hgrow
  have hB := (Below.refl w.heap.size w).grown hgrow (Nat.le_refl _) (by simp)
  have hF := Fills.start (l := L) hown HL.out
  clear hown hgrow
  go_wp2
  go_loopw [4] (fun i wr => ∃ k : Nat, k ≤ xs.length ∧ i = .int .i64 k ∧ Fills wr w.heap.size 64 5 (.slice (some ⟨w.heap.size, 0, none⟩) xs.length xs.length) xs.length L (k * 5) ∧ Below w.heap.size w wr) (fun i _ => xs.length - (intOf i).toNat)
  case atStart => exact ⟨0, by omega, rfl, by rw [Nat.zero_mul]; exact hF, hB⟩
  case round =>
    clear hF hB
    obtain ⟨k, hk, rfl, hF, hB⟩ := hrel
    by_cases hlt : k < xs.length
    · obtain ⟨bb, off, rfl, hbs, c0, c1, c2, c3, c4⟩ := hc k hlt
      have e0 : wr.cell? ⟨bb, off + k * 5, none⟩ = some (.int .i64 xs[k].gen_) := by rw [hB.cell (p := ⟨bb, off + k * 5, none⟩) hbs]; exact c0
      have e1 : wr.cell? ⟨bb, off + k * 5 + 1, none⟩ = some (.bool xs[k].free_) := by rw [hB.cell (p := ⟨bb, off + k * 5 + 1, none⟩) hbs]; exact c1
      have e2 : wr.cell? ⟨bb, off + k * 5 + 2, none⟩ = some (.int .i64 xs[k].words0_) := by rw [hB.cell (p := ⟨bb, off + k * 5 + 2, none⟩) hbs]; exact c2
      have e3 : wr.cell? ⟨bb, off + k * 5 + 3, none⟩ = some (.int .i64 xs[k].words1_) := by rw [hB.cell (p := ⟨bb, off + k * 5 + 3, none⟩) hbs]; exact c3
      have e4 : wr.cell? ⟨bb, off + k * 5 + 4, none⟩ = some (.int .i64 xs[k].words2_) := by rw [hB.cell (p := ⟨bb, off + k * 5 + 4, none⟩) hbs]; exact c4
      obtain ⟨g, hg, hbg, hgs, hcells⟩ := hF.at HL.out (by rw [HL.out]; omega)
      obtain rfl := (Addr.mk.inj (Option.some.inj hg)).1
      go_wp2_with fail
      refine (toBlock_c xs[k] _).mono ?_
      rintro e w2 ⟨rfl, hB1⟩
      have hB2 := hB.trans (hB1.mono (by have := hB.size; omega))
      have hF1 := hF.below hB1
      obtain ⟨g2, hg2, hbg2, hgs2, hcells2⟩ := hF1.at HL.out (by rw [HL.out]; omega)
      obtain rfl := (Addr.mk.inj (Option.some.inj hg2)).1
      obtain ⟨⟨u0, hu0⟩, hf0⟩ := hcells2 (k * 5) (by rw [HL.out]; omega)
      obtain ⟨⟨u1, hu1⟩, hf1⟩ := hcells2 (k * 5 + 1) (by rw [HL.out]; omega)
      obtain ⟨⟨u2, hu2⟩, hf2⟩ := hcells2 (k * 5 + 2) (by rw [HL.out]; omega)
      obtain ⟨⟨u3, hu3⟩, hf3⟩ := hcells2 (k * 5 + 3) (by rw [HL.out]; omega)
      obtain ⟨⟨u4, hu4⟩, hf4⟩ := hcells2 (k * 5 + 4) (by rw [HL.out]; omega)
      have l0 : L[k * 5]? = some (.int .i64 xs[k].gen_) := hlk k hlt 0 (by omega)
      have l1 : L[k * 5 + 1]? = some (.bool xs[k].free_) := hlk k hlt 1 (by omega)
      have l2 : L[k * 5 + 2]? = some (.int .i64 xs[k].words0_) := hlk k hlt 2 (by omega)
      have l3 : L[k * 5 + 3]? = some (.int .i64 xs[k].words1_) := hlk k hlt 3 (by omega)
      have l4 : L[k * 5 + 4]? = some (.int .i64 xs[k].words2_) := hlk k hlt 4 (by omega)
      have s0 := (hF1.store _ l0).1
      have s1 := (s0.store _ l1).1
      have s2 := (s1.store _ l2).1
      have s3 := (s2.store _ l3).1
      have s4 := (s3.store _ l4).1
      have hB3 := (((((hB2.setCell (p := ⟨w.heap.size, k * 5, none⟩) (Nat.le_refl _) (.int .i64 xs[k].gen_)).setCell (p := ⟨w.heap.size, k * 5 + 1, none⟩) (Nat.le_refl _) (.bool xs[k].free_)).setCell (p := ⟨w.heap.size, k * 5 + 2, none⟩) (Nat.le_refl _) (.int .i64 xs[k].words0_)).setCell (p := ⟨w.heap.size, k * 5 + 3, none⟩) (Nat.le_refl _) (.int .i64 xs[k].words1_)).setCell (p := ⟨w.heap.size, k * 5 + 4, none⟩) (Nat.le_refl _) (.int .i64 xs[k].words2_))
      clear hc hcells hF hg hg2 hcells2 hF1 c0 c1 c2 c3 c4 e0 e1 e2 e3 e4 l0 l1 l2 l3 l4 hB1 hB2
      unfold Block.val
      go_wp2
      go_roundw
      case rel => exact ⟨k+1, by omega, by go_num, by rw [Nat.add_mul]; exact s4, hB3⟩
      case measure => simp [intOf]; omega
    · go_wp2
      go_ret
      exact ⟨_, rfl, hF.done (by rw [HL.out]; omega), hB⟩

theorem eqBlockS_c (v u : Value) (xs : List Block) (w : World) (h : Blocks w v xs) (g : Blocks w u xs) :
    Calls Try.prog 90 #[v, u] w fun e w' => e = .returned (.bool true) ∧ Below w.heap.size w w' := by
  obtain ⟨ad, cap, rfl, hl, hm, hc⟩ := h.open
  obtain ⟨ad2, cap2, rfl, hl2, hm2, hc2⟩ := g.open
  clear h g
  have hlen : xs.length ≤ 9223372036854775807 := by omega
  go_enter Try.func90, Try.ntmps90
  go_wp2
  go_loopw [5] (fun i wr => ∃ k : Nat, k ≤ xs.length ∧ i = .int .i64 k ∧ Below w.heap.size w wr) (fun i _ => xs.length - (intOf i).toNat)
  case atStart => exact ⟨0, by omega, rfl, Below.refl _ _⟩
  case round =>
    obtain ⟨k, hk, rfl, hB⟩ := hrel
    by_cases hlt : k < xs.length
    · obtain ⟨bb, off, rfl, hbs, c0, c1, c2, c3, c4⟩ := hc k hlt
      obtain ⟨bb2, off2, rfl, hbs2, d0, d1, d2, d3, d4⟩ := hc2 k hlt
      have kc : ∀ o, wr.cell? ⟨bb, o, none⟩ = w.cell? ⟨bb, o, none⟩ := fun o => hB.cell (p := ⟨bb, o, none⟩) hbs
      have kd : ∀ o, wr.cell? ⟨bb2, o, none⟩ = w.cell? ⟨bb2, o, none⟩ := fun o => hB.cell (p := ⟨bb2, o, none⟩) hbs2
      rw [← kc] at c0 c1 c2 c3 c4
      rw [← kd] at d0 d1 d2 d3 d4
      clear hc hc2 kc kd
      go_wp2
      go_still_tail 8, (by kernel_rfl)
      go_wp2_with fail
      refine (eqBlock_c xs[k] _).mono ?_
      rintro e w1 ⟨rfl, hB1⟩
      go_wp2
      go_roundw
      case rel => exact ⟨k+1, by omega, by go_num, hB.drew.trans (hB1.mono (by have := hB.size; simp; omega))⟩
      case measure => simp [intOf]; omega
    · go_wp2
      go_ret
      exact ⟨rfl, hB⟩

def markBlock : Nat → Int → Value := fun j x => if j % 5 = 1 then .bool (x % 3 == 0) else .int .i64 x

theorem markBlockS_c (base e : Nat) (v : Value) (n : Nat) (cs : List Value) (k : Int) (w : World) (hn : n ≤ 1099511627776) (h0 : 0 ≤ k) (h1 : k ≤ 1125899906842624) (h : w.ownsRow base e 5 v n cs) :
    Calls Try.prog 92 #[v, .int .i64 k] w fun r w' => r = .returned (.int .i64 (k + 5 * n)) ∧ w'.ownsRow base e 5 v n (markV markBlock (n * 5) k) ∧ w.grownBy w' v.ownBlock := by
  obtain ⟨a, cap, rfl, hl, hm⟩ := owns_form h
  have hF := Fills.start (l := markV markBlock (n * 5) k) h (by rw [markV_length])
  clear h
  go_enter Try.func92, Try.ntmps92
  go_wp2
  go_loopw [1, 5] (fun kk i wr => ∃ j : Nat, j ≤ n ∧ i = .int .i64 j ∧ kk = .int .i64 (k + 5 * j) ∧ Fills wr base e 5 (.slice a n cap) n (markV markBlock (n * 5) k) (j * 5) ∧ w.grownBy wr (Value.slice a n cap).ownBlock) (fun _ i _ => n - (intOf i).toNat)
  case atStart => exact ⟨0, by omega, rfl, by simp, by rw [Nat.zero_mul]; exact hF, World.grownBy.refl _ _⟩
  case round =>
    clear hF
    obtain ⟨j, hj, rfl, rfl, hF, hG⟩ := hrel
    by_cases hlt : j < n
    · have hm4 : Same (markV markBlock (n * 5) k).length (n * 5) := Same.mk (markV_length _ _ _)
      obtain ⟨g, rfl, hbg, hgs, hcells⟩ := hF.at hm4.out (by rw [hm4.out]; omega)
      have hcells2 : ∀ i, i < n * 5 → (∃ u, _ = some u) ∧ _ := fun i hi => hcells i (by rw [hm4.out]; exact hi)
      obtain ⟨⟨u0, hu0⟩, hf0⟩ := hcells2 (j * 5) (by omega)
      obtain ⟨⟨u1, hu1⟩, hf1⟩ := hcells2 (j * 5 + 1) (by omega)
      have s0 := hF.store (.int .i64 (k + 5 * j)) (by rw [markV_get _ _ _ _ (by omega)]; unfold markBlock; rw [if_neg (by omega), show k + ((j * 5 : Nat) : Int) = k + 5 * j from by omega])
      have s1 := s0.1.store (.bool ((k + 5 * j + 1) % 3 == 0)) (by rw [markV_get _ _ _ _ (by omega)]; unfold markBlock; rw [if_pos (by omega), show k + ((j * 5 + 1 : Nat) : Int) = k + 5 * j + 1 from by omega])
      have hG1 := grownBy_trans hG (grownBy_trans s0.2 s1.2)
      have hF1 := s1.1
      clear s0 s1 hcells2 hcells hF hG
      go_wp2
      go_loopw [1, 6] (fun kk i wr => ∃ j2 : Nat, j2 ≤ 3 ∧ i = .int .i64 j2 ∧ kk = .int .i64 (k + 5 * j + 1 + 1 + j2) ∧ Fills wr base e 5 (.slice (some ⟨g, 0, none⟩) n cap) n (markV markBlock (n * 5) k) (j * 5 + 2 + j2) ∧ w.grownBy wr (some g)) (fun _ i _ => 3 - (intOf i).toNat)
      case atStart => exact ⟨0, by omega, rfl, by simp, hF1, hG1⟩
      case round =>
        clear hF1 hG1
        obtain ⟨j2, hj2, rfl, rfl, hF, hG⟩ := hrel
        by_cases h3 : j2 < 3
        · obtain ⟨g2, hg2, hbg2, hgs2, hcells⟩ := hF.at hm4.out (by rw [hm4.out]; omega)
          obtain rfl := (Addr.mk.inj (Option.some.inj hg2)).1
          obtain ⟨⟨u, hu⟩, hf⟩ := hcells (j * 5 + 2 + j2) (by rw [hm4.out]; omega)
          have s := hF.store (.int .i64 (k + 5 * j + 1 + 1 + j2)) (by rw [markV_get _ _ _ _ (by omega)]; unfold markBlock; rw [if_neg (by omega), show k + ((j * 5 + 2 + j2 : Nat) : Int) = k + 5 * j + 1 + 1 + j2 from by omega])
          have hF2 := s.1
          have hG2 := grownBy_trans hG s.2
          clear s hcells hF hG hg2
          go_wp2
          go_roundw
          case rel => exact ⟨j2+1, by omega, by go_num, by go_num, hF2, hG2⟩
          case measure => simp [intOf]; omega
        · obtain rfl : j2 = 3 := by omega
          go_wp2
          go_roundw
          case rel => exact ⟨j+1, by omega, by go_num, by go_num, by rw [Nat.add_mul]; exact hF, hG⟩
          case measure => simp [intOf]; omega
    · go_wp2
      go_ret
      exact ⟨ret_int (by omega), hF.done (by rw [markV_length]; omega), hG⟩

theorem heldBlockS_c (v : Value) (n : Nat) (k : Int) (w : World) (hn : n ≤ 1099511627776) (h0 : 0 ≤ k) (h1 : k ≤ 1125899906842624) (h : Flat w v n 5 (markV markBlock (n * 5) k)) :
    Calls Try.prog 93 #[v, .int .i64 k] w fun r w' => r = .returned (.int .i64 (k + 5 * n)) ∧ Below w.heap.size w w' := by
  obtain ⟨a, cap, rfl, hl, hm, hc⟩ := flat_cells h
  clear h
  go_enter Try.func93, Try.ntmps93
  go_wp2
  go_loopw [1, 5] (fun kk i wr => ∃ j : Nat, j ≤ n ∧ i = .int .i64 j ∧ kk = .int .i64 (k + 5 * j) ∧ w = wr) (fun _ i _ => n - (intOf i).toNat)
  case atStart => exact ⟨0, by omega, rfl, by simp, by simp⟩
  case round =>
    obtain ⟨j, hj, rfl, rfl, rfl⟩ := hrel
    by_cases hlt : j < n
    · obtain ⟨b, off, rfl, hbs, hcc⟩ := hc j hlt
      have e0 : w.cell? ⟨b, off + j * 5, none⟩ = some (.int .i64 (k + 5 * j)) := by have := hcc 0 (by omega); rw [markV_get _ _ _ _ (by omega)] at this; refine this.trans ?_; unfold markBlock; rw [if_neg (by omega), show k + ((j * 5 + 0 : Nat) : Int) = k + 5 * j from by omega]
      have e1 : w.cell? ⟨b, off + j * 5 + 1, none⟩ = some (.bool ((k + 5 * j + 1) % 3 == 0)) := by have := hcc 1 (by omega); rw [markV_get _ _ _ _ (by omega)] at this; refine this.trans ?_; unfold markBlock; rw [if_pos (by omega), show k + ((j * 5 + 1 : Nat) : Int) = k + 5 * j + 1 from by omega]
      have ha := hid (show ∀ j2 : Nat, j2 < 3 → w.cell? ⟨b, off + j * 5 + 2 + j2, none⟩ = some (.int .i64 (k + 5 * j + 1 + 1 + j2)) from fun j2 h2 => by have := hcc (2 + j2) (by omega); rw [markV_get _ _ _ _ (by omega), ← Nat.add_assoc, ← Nat.add_assoc] at this; refine this.trans ?_; unfold markBlock; rw [if_neg (by omega), show k + ((j * 5 + (2 + j2) : Nat) : Int) = k + 5 * j + 1 + 1 + j2 from by omega])
      clear hc hcc
      go_wp2
      go_loopw [1, 6] (fun kk i wr => ∃ j2 : Nat, j2 ≤ 3 ∧ i = .int .i64 j2 ∧ kk = .int .i64 (k + 5 * j + 1 + 1 + j2) ∧ w = wr) (fun _ i _ => 3 - (intOf i).toNat)
      case atStart => exact ⟨0, by omega, rfl, by simp, by simp⟩
      case round =>
        obtain ⟨j2, hj2, rfl, rfl, rfl⟩ := hrel
        by_cases h3 : j2 < 3
        · have e := ha.out j2 h3
          clear ha
          go_wp2
          go_roundw
          case rel => exact ⟨j2+1, by omega, by go_num, by go_num, trivial⟩
          case measure => simp [intOf]; omega
        · obtain rfl : j2 = 3 := by omega
          go_wp2
          go_roundw
          case rel => exact ⟨j+1, by omega, by go_num, by go_num, trivial⟩
          case measure => simp [intOf]; omega
    · go_wp2
      go_ret
      exact ⟨ret_int (by omega), Below.refl _ _⟩

theorem szBlockS_c (a : Option Addr) (n cap : Nat) (k : Int) (w : World) (hn : n ≤ 9223372036854775807) (h0 : 0 ≤ k) (h1 : k ≤ 1048576) :
    Calls Try.prog 86 #[.slice a n cap, .int .i64 k] w fun e w' => e = .returned (.int .i64 (if k < n then -1 else k - n)) ∧ w = w' := by
  go_enter Try.func86, Try.ntmps86
  go_wp2
  all_goals go_ret
  all_goals exact ⟨rfl, rfl⟩

structure Gone where
  handle_ : Int
  pass_ : Int

def Gone.enc (o : Gone) : List Value := [.int .i64 o.handle_, .int .i64 o.pass_]

def Gone.val (o : Gone) : Value := .agg #[.int .i64 o.handle_, .int .i64 o.pass_]

/-- What a walk over a slice of these is told. -/
def Gones (w : World) (v : Value) (xs : List Gone) : Prop := Flat w v xs.length 2 (xs.flatMap Gone.enc)

theorem Gones.below {w w' : World} {v : Value} {xs : List Gone} (h : Gones w v xs) (hb : Below w.heap.size w w') : Gones w' v xs := Flat.below h hb

theorem Gones.open {w : World} {v : Value} {xs : List Gone} (h : Gones w v xs) : ∃ a cap, v = .slice a xs.length cap ∧ xs.length ≤ cap ∧ cap ≤ 9223372036854775807 ∧
    ∀ k, (hk : k < xs.length) → ∃ b off, a = some ⟨b, off, none⟩ ∧ b < w.heap.size ∧ w.cell? ⟨b, off + k * 2, none⟩ = some (.int .i64 xs[k].handle_) ∧ w.cell? ⟨b, off + k * 2 + 1, none⟩ = some (.int .i64 xs[k].pass_) := by
  obtain ⟨a, cap, e, h1, h2, h3⟩ := flat_elem (f := Gone.enc) (sz := 2) (fun _ => rfl) h
  refine ⟨a, cap, e, h1, h2, fun k hk => ?_⟩
  obtain ⟨b, off, ha, hs, hc⟩ := h3 k hk
  exact ⟨b, off, ha, hs, hc 0 (by omega), hc 1 (by omega)⟩

theorem toGone_c (o : Gone) (w : World) :
    Calls Try.prog 89 #[o.val] w fun e w' => e = .returned o.val ∧ Below w.heap.size w w' := by
  obtain ⟨a0, a1⟩ := o
  unfold Gone.val
  dsimp only
  go_enter Try.func89, Try.ntmps89
  go_wp2
  exact bodyPost_ret (v := .agg #[.int .i64 a0, .int .i64 a1]) (by simp [results, Try.results89, go_sem]) rfl ⟨rfl, (by repeat (first | exact Below.refl _ _ | refine Below.alloc ?_ (by simp; try omega) _))⟩

theorem eqGone_c (o : Gone) (w : World) :
    Calls Try.prog 91 #[o.val, o.val] w fun e w' => e = .returned (.bool true) ∧ Below w.heap.size w w' := by
  obtain ⟨a0, a1⟩ := o
  unfold Gone.val
  dsimp only
  go_enter Try.func91, Try.ntmps91
  go_wp2
  go_ret
  exact ⟨rfl, (by repeat (first | exact Below.refl _ _ | refine Below.alloc ?_ (by simp; try omega) _))⟩

theorem infoGone : (Try.prog.info? 70).map (fun i => (i.zero, i.size, i.bytes)) = some (some (.agg #[.int .i64 0, .int .i64 0]), 2, 16) := by kernel_rfl

theorem toGoneS_c (v : Value) (xs : List Gone) (w : World) (hx : xs.length ≤ 1048576) (h : Gones w v xs) :
    Calls Try.prog 59 #[v] w fun e w' => ∃ v', e = .returned v' ∧ w'.ownsRow w.heap.size 70 2 v' xs.length (xs.flatMap Gone.enc) ∧ Below w.heap.size w w' := by
  obtain ⟨ad, cap, rfl, hl, hm, hc⟩ := h.open
  clear h
  have hlen : xs.length ≤ 9223372036854775807 := by omega
  obtain ⟨i0, hi, hz0, hz1, hz2⟩ := info_parts infoGone
  have hL : (xs.flatMap Gone.enc).length = xs.length * 2 := flatMap_len _ 2 (fun _ => rfl) xs
  have hlk : ∀ k, (hk : k < xs.length) → ∀ j, j < 2 → (xs.flatMap Gone.enc)[k * 2 + j]? = (Gone.enc xs[k])[j]? := fun k hk j hj => flatMap_get Gone.enc 2 (fun _ => rfl) xs k hk j hj
  generalize xs.flatMap Gone.enc = L at *
  have HL := hid hL
  clear hL
  go_enter Try.func59, Try.ntmps59
  go_wp2_with (at_make; refine wpList_make_full _ rfl _ _ 28 rfl (w.heap.size) 70 i0 (.agg #[.int .i64 0, .int .i64 0]) 2 Try.underlying28 hi hz0 hz1 _ _ _ _ xs.length rfl rfl rfl rfl (by rw [hz2]; omega) (by unfold maxLen; omega) (Nat.le_refl _) ?_)
  intro w1 hown hgrow
  have hB := (Below.refl w.heap.size w).grown hgrow (Nat.le_refl _) (by simp)
  have hF := Fills.start (l := L) hown HL.out
  clear hown hgrow
  go_wp2
  go_loopw [4] (fun i wr => ∃ k : Nat, k ≤ xs.length ∧ i = .int .i64 k ∧ Fills wr w.heap.size 70 2 (.slice (some ⟨w.heap.size, 0, none⟩) xs.length xs.length) xs.length L (k * 2) ∧ Below w.heap.size w wr) (fun i _ => xs.length - (intOf i).toNat)
  case atStart => exact ⟨0, by omega, rfl, by rw [Nat.zero_mul]; exact hF, hB⟩
  case round =>
    clear hF hB
    obtain ⟨k, hk, rfl, hF, hB⟩ := hrel
    by_cases hlt : k < xs.length
    · obtain ⟨bb, off, rfl, hbs, c0, c1⟩ := hc k hlt
      have e0 : wr.cell? ⟨bb, off + k * 2, none⟩ = some (.int .i64 xs[k].handle_) := by rw [hB.cell (p := ⟨bb, off + k * 2, none⟩) hbs]; exact c0
      have e1 : wr.cell? ⟨bb, off + k * 2 + 1, none⟩ = some (.int .i64 xs[k].pass_) := by rw [hB.cell (p := ⟨bb, off + k * 2 + 1, none⟩) hbs]; exact c1
      obtain ⟨g, hg, hbg, hgs, hcells⟩ := hF.at HL.out (by rw [HL.out]; omega)
      obtain rfl := (Addr.mk.inj (Option.some.inj hg)).1
      go_wp2_with fail
      refine (toGone_c xs[k] _).mono ?_
      rintro e w2 ⟨rfl, hB1⟩
      have hB2 := hB.trans (hB1.mono (by have := hB.size; omega))
      have hF1 := hF.below hB1
      obtain ⟨g2, hg2, hbg2, hgs2, hcells2⟩ := hF1.at HL.out (by rw [HL.out]; omega)
      obtain rfl := (Addr.mk.inj (Option.some.inj hg2)).1
      obtain ⟨⟨u0, hu0⟩, hf0⟩ := hcells2 (k * 2) (by rw [HL.out]; omega)
      obtain ⟨⟨u1, hu1⟩, hf1⟩ := hcells2 (k * 2 + 1) (by rw [HL.out]; omega)
      have l0 : L[k * 2]? = some (.int .i64 xs[k].handle_) := hlk k hlt 0 (by omega)
      have l1 : L[k * 2 + 1]? = some (.int .i64 xs[k].pass_) := hlk k hlt 1 (by omega)
      have s0 := (hF1.store _ l0).1
      have s1 := (s0.store _ l1).1
      have hB3 := ((hB2.setCell (p := ⟨w.heap.size, k * 2, none⟩) (Nat.le_refl _) (.int .i64 xs[k].handle_)).setCell (p := ⟨w.heap.size, k * 2 + 1, none⟩) (Nat.le_refl _) (.int .i64 xs[k].pass_))
      clear hc hcells hF hg hg2 hcells2 hF1 c0 c1 e0 e1 l0 l1 hB1 hB2
      unfold Gone.val
      go_wp2
      go_roundw
      case rel => exact ⟨k+1, by omega, by go_num, by rw [Nat.add_mul]; exact s1, hB3⟩
      case measure => simp [intOf]; omega
    · go_wp2
      go_ret
      exact ⟨_, rfl, hF.done (by rw [HL.out]; omega), hB⟩

theorem eqGoneS_c (v u : Value) (xs : List Gone) (w : World) (h : Gones w v xs) (g : Gones w u xs) :
    Calls Try.prog 64 #[v, u] w fun e w' => e = .returned (.bool true) ∧ Below w.heap.size w w' := by
  obtain ⟨ad, cap, rfl, hl, hm, hc⟩ := h.open
  obtain ⟨ad2, cap2, rfl, hl2, hm2, hc2⟩ := g.open
  clear h g
  have hlen : xs.length ≤ 9223372036854775807 := by omega
  go_enter Try.func64, Try.ntmps64
  go_wp2
  go_loopw [5] (fun i wr => ∃ k : Nat, k ≤ xs.length ∧ i = .int .i64 k ∧ Below w.heap.size w wr) (fun i _ => xs.length - (intOf i).toNat)
  case atStart => exact ⟨0, by omega, rfl, Below.refl _ _⟩
  case round =>
    obtain ⟨k, hk, rfl, hB⟩ := hrel
    by_cases hlt : k < xs.length
    · obtain ⟨bb, off, rfl, hbs, c0, c1⟩ := hc k hlt
      obtain ⟨bb2, off2, rfl, hbs2, d0, d1⟩ := hc2 k hlt
      have kc : ∀ o, wr.cell? ⟨bb, o, none⟩ = w.cell? ⟨bb, o, none⟩ := fun o => hB.cell (p := ⟨bb, o, none⟩) hbs
      have kd : ∀ o, wr.cell? ⟨bb2, o, none⟩ = w.cell? ⟨bb2, o, none⟩ := fun o => hB.cell (p := ⟨bb2, o, none⟩) hbs2
      rw [← kc] at c0 c1
      rw [← kd] at d0 d1
      clear hc hc2 kc kd
      go_wp2
      go_still_tail 8, (by kernel_rfl)
      go_wp2_with fail
      refine (eqGone_c xs[k] _).mono ?_
      rintro e w1 ⟨rfl, hB1⟩
      go_wp2
      go_roundw
      case rel => exact ⟨k+1, by omega, by go_num, hB.drew.trans (hB1.mono (by have := hB.size; simp; omega))⟩
      case measure => simp [intOf]; omega
    · go_wp2
      go_ret
      exact ⟨rfl, hB⟩

theorem markGoneS_c (base e : Nat) (v : Value) (n : Nat) (cs : List Value) (k : Int) (w : World) (hn : n ≤ 1099511627776) (h0 : 0 ≤ k) (h1 : k ≤ 1125899906842624) (h : w.ownsRow base e 2 v n cs) :
    Calls Try.prog 68 #[v, .int .i64 k] w fun r w' => r = .returned (.int .i64 (k + 2 * n)) ∧ w'.ownsRow base e 2 v n (markV markI (n * 2) k) ∧ w.grownBy w' v.ownBlock := by
  obtain ⟨a, cap, rfl, hl, hm⟩ := owns_form h
  have hF := Fills.start (l := markV markI (n * 2) k) h (by rw [markV_length])
  clear h
  go_enter Try.func68, Try.ntmps68
  go_wp2
  go_loopw [1, 5] (fun kk i wr => ∃ j : Nat, j ≤ n ∧ i = .int .i64 j ∧ kk = .int .i64 (k + 2 * j) ∧ Fills wr base e 2 (.slice a n cap) n (markV markI (n * 2) k) (j * 2) ∧ w.grownBy wr (Value.slice a n cap).ownBlock) (fun _ i _ => n - (intOf i).toNat)
  case atStart => exact ⟨0, by omega, rfl, by simp, by rw [Nat.zero_mul]; exact hF, World.grownBy.refl _ _⟩
  case round =>
    clear hF
    obtain ⟨j, hj, rfl, rfl, hF, hG⟩ := hrel
    by_cases hlt : j < n
    · have hm4 : (markV markI (n * 2) k).length = (n * 2) := markV_length _ _ _
      obtain ⟨g, rfl, hbg, hgs, hcells⟩ := hF.at (by rw [hm4]) (by omega)
      obtain ⟨⟨u0, hu0⟩, hf0⟩ := hcells (j * 2) (by omega)
      obtain ⟨⟨u1, hu1⟩, hf1⟩ := hcells (j * 2 + 1) (by omega)
      have s0 := hF.store (.int .i64 (k + 2 * j)) (by rw [markV_get _ _ _ _ (by omega)]; simp [markI] <;> omega)
      have s1 := s0.1.store (.int .i64 (k + 2 * j + 1)) (by rw [markV_get _ _ _ _ (by omega)]; simp [markI] <;> omega)
      have hG4 := grownBy_trans hG (grownBy_trans s0.2 s1.2)
      have hF4 := s1.1
      clear s0 s1 hcells hm4 hF hG
      go_wp2
      go_roundw
      case rel => exact ⟨j+1, by omega, by go_num, by go_num, by rw [Nat.add_mul]; exact hF4, hG4⟩
      case measure => simp [intOf]; omega
    · go_wp2
      go_ret
      exact ⟨ret_int (by omega), hF.done (by rw [markV_length]; omega), hG⟩

theorem heldGoneS_c (v : Value) (n : Nat) (k : Int) (w : World) (hn : n ≤ 1099511627776) (h0 : 0 ≤ k) (h1 : k ≤ 1125899906842624) (h : Flat w v n 2 (markV markI (n * 2) k)) :
    Calls Try.prog 71 #[v, .int .i64 k] w fun r w' => r = .returned (.int .i64 (k + 2 * n)) ∧ Below w.heap.size w w' := by
  obtain ⟨a, cap, rfl, hl, hm, hc⟩ := flat_cells h
  clear h
  go_enter Try.func71, Try.ntmps71
  go_wp2
  go_loopw [1, 5] (fun kk i wr => ∃ j : Nat, j ≤ n ∧ i = .int .i64 j ∧ kk = .int .i64 (k + 2 * j) ∧ w = wr) (fun _ i _ => n - (intOf i).toNat)
  case atStart => exact ⟨0, by omega, rfl, by simp, by simp⟩
  case round =>
    obtain ⟨j, hj, rfl, rfl, rfl⟩ := hrel
    by_cases hlt : j < n
    · obtain ⟨b, off, rfl, hbs, hcc⟩ := hc j hlt
      have e0 : w.cell? ⟨b, off + j * 2, none⟩ = some (.int .i64 (k + 2 * j)) := by have := hcc 0 (by omega); rw [markV_get _ _ _ _ (by omega)] at this; refine this.trans ?_; simp [markI] <;> omega
      have e1 : w.cell? ⟨b, off + j * 2 + 1, none⟩ = some (.int .i64 (k + 2 * j + 1)) := by have := hcc 1 (by omega); rw [markV_get _ _ _ _ (by omega)] at this; refine this.trans ?_; simp [markI] <;> omega
      clear hc hcc
      go_wp2
      go_roundw
      case rel => exact ⟨j+1, by omega, by go_num, by go_num, trivial⟩
      case measure => simp [intOf]; omega
    · go_wp2
      go_ret
      exact ⟨ret_int (by omega), Below.refl _ _⟩

theorem szGoneS_c (a : Option Addr) (n cap : Nat) (k : Int) (w : World) (hn : n ≤ 9223372036854775807) (h0 : 0 ≤ k) (h1 : k ≤ 1048576) :
    Calls Try.prog 51 #[.slice a n cap, .int .i64 k] w fun e w' => e = .returned (.int .i64 (if k < n then -1 else k - n)) ∧ w = w' := by
  go_enter Try.func51, Try.ntmps51
  go_wp2
  all_goals go_ret
  all_goals exact ⟨rfl, rfl⟩

end Go.Proofs.Ytdnfphpeleakcaa
