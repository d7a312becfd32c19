import Derived.Test.YtjcnoogloncbbaaProg
import Derived.Test.YtjcnoogloncbbaaFp
namespace Go.Proofs.Ytjcnoogloncbbaa
open Go.RowKit Go.Proofs Go.Own
set_option maxRecDepth 100000

structure Phasor where
  re_ : Nat
  im_ : Nat

def Phasor.enc (o : Phasor) : List Value := [.float .f64 o.re_, .float .f64 o.im_]

def Phasor.val (o : Phasor) : Value := .agg #[.float .f64 o.re_, .float .f64 o.im_]

/-- What it reads as, whatever its NaNs. -/
def Phasor.rd (o : Phasor) : R × R := (rdF .f64 o.re_, rdF .f64 o.im_)

/-- What a walk over a slice of these is told. -/
def Phasors (w : World) (v : Value) (xs : List Phasor) : Prop := Flat w v xs.length 2 (xs.flatMap Phasor.enc)

theorem Phasors.below {w w' : World} {v : Value} {xs : List Phasor} (h : Phasors w v xs) (hb : Below w.heap.size w w') : Phasors w' v xs := Flat.below h hb

theorem Phasors.open {w : World} {v : Value} {xs : List Phasor} (h : Phasors w v xs) : ∃ a cap, v = .slice a xs.length cap ∧ xs.length ≤ cap ∧ cap ≤ 9223372036854775807 ∧
    ∀ k, (hk : k < xs.length) → ∃ b off, a = some ⟨b, off, none⟩ ∧ b < w.heap.size ∧ w.cell? ⟨b, off + k * 2, none⟩ = some (.float .f64 xs[k].re_) ∧ w.cell? ⟨b, off + k * 2 + 1, none⟩ = some (.float .f64 xs[k].im_) := by
  obtain ⟨a, cap, e, h1, h2, h3⟩ := flat_elem (f := Phasor.enc) (sz := 2) (fun _ => rfl) h
  refine ⟨a, cap, e, h1, h2, fun k hk => ?_⟩
  obtain ⟨b, off, ha, hs, hc⟩ := h3 k hk
  exact ⟨b, off, ha, hs, hc 0 (by omega), hc 1 (by omega)⟩

theorem toPhasor_c (o : Phasor) (w : World) :
    Calls Try.prog 12 #[o.val] w fun e w' => e = .returned o.val ∧ Below w.heap.size w w' := by
  obtain ⟨a0, a1⟩ := o
  unfold Phasor.val
  dsimp only
  go_enter Try.func12, Try.ntmps12
  go_wp2
  exact bodyPost_ret (v := .agg #[.float .f64 a0, .float .f64 a1]) (by simp [results, Try.results12, go_sem]) rfl ⟨rfl, (by repeat (first | exact Below.refl _ _ | refine below_drewN ?_ _ | refine Below.alloc ?_ (by simp; try omega) _))⟩

theorem eqPhasor_c (o p : Phasor) (h : o.rd = p.rd) (w : World) :
    Calls Try.prog 18 #[o.val, p.val] w fun e w' => e = .returned (.bool true) ∧ Below w.heap.size w w' := by
  obtain ⟨a0, a1⟩ := o
  obtain ⟨b0, b1⟩ := p
  unfold Phasor.rd at h
  dsimp only at h
  obtain ⟨h0, h1⟩ := Prod.mk.inj h
  unfold Phasor.val
  dsimp only
  go_enter Try.func18, Try.ntmps18
  go_wp2_with fail
  refine (sameFloat_c _ _ h0 _).mono ?_
  rintro e w1 ⟨rfl, hB1⟩
  have ca01 : w1.cell? ⟨w.heap.size, 1, none⟩ = some (.float .f64 a1) := by rw [hB1.cell (p := ⟨w.heap.size, 1, none⟩) (by simp <;> omega)]; simp [go_sem]
  have cb01 : w1.cell? ⟨w.heap.size + 1, 1, none⟩ = some (.float .f64 b1) := by rw [hB1.cell (p := ⟨w.heap.size + 1, 1, none⟩) (by simp <;> omega)]; simp [go_sem]
  go_wp2_with fail
  refine (sameFloat_c _ _ h1 _).mono ?_
  rintro e w2 ⟨rfl, hB2⟩
  have hB : Below w.heap.size w w2 := Below.trans (by first | exact Below.trans (by repeat (first | exact Below.refl _ _ | refine below_drewN ?_ _ | refine Below.alloc ?_ (by simp; try omega) _)) (hB1.mono (by simp; try omega)) | exact below_drewN (Below.trans (by repeat (first | exact Below.refl _ _ | refine below_drewN ?_ _ | refine Below.alloc ?_ (by simp; try omega) _)) (hB1.mono (by simp; try omega))) _) (hB2.mono (by have := hB1.size; simp at this ⊢; try omega))
  go_wp2
  go_ret
  exact ⟨rfl, hB⟩

theorem infoPhasor : (Try.prog.info? 29).map (fun i => (i.zero, i.size, i.bytes)) = some (some (.agg #[.float .f64 0, .float .f64 0]), 2, 16) := by kernel_rfl

theorem toPhasorS_c (v : Value) (xs : List Phasor) (w : World) (hx : xs.length ≤ 1048576) (h : Phasors w v xs) :
    Calls Try.prog 25 #[v] w fun e w' => ∃ v', e = .returned v' ∧ w'.ownsRow w.heap.size 29 2 v' xs.length (xs.flatMap Phasor.enc) ∧ Below w.heap.size w w' := by
  obtain ⟨ad, cap, rfl, hl, hm, hc⟩ := h.open
  clear h
  have hlen : xs.length ≤ 9223372036854775807 := by omega
  obtain ⟨i0, hi, hz0, hz1, hz2⟩ := info_parts infoPhasor
  have hL : (xs.flatMap Phasor.enc).length = xs.length * 2 := flatMap_len _ 2 (fun _ => rfl) xs
  have hlk : ∀ k, (hk : k < xs.length) → ∀ j, j < 2 → (xs.flatMap Phasor.enc)[k * 2 + j]? = (Phasor.enc xs[k])[j]? := fun k hk j hj => flatMap_get Phasor.enc 2 (fun _ => rfl) xs k hk j hj
  generalize xs.flatMap Phasor.enc = L at *
  have HL := hid hL
  clear hL
  go_enter Try.func25, Try.ntmps25
  go_wp2_with (at_make; refine wpList_make_full _ rfl _ _ 46 rfl (w.heap.size) 29 i0 (.agg #[.float .f64 0, .float .f64 0]) 2 Try.underlying46 hi hz0 hz1 _ _ _ _ xs.length rfl rfl rfl rfl (by rw [hz2]; omega) (by unfold maxLen; omega) (Nat.le_refl _) ?_)
  intro w1 hown hgrow
  have hB := (Below.refl w.heap.size w).grown hgrow (Nat.le_refl _) (by simp)
  have hF := Fills.start (l := L) hown HL.out
  clear hown hgrow
  go_wp2
  go_loopw [4] (fun i wr => ∃ k : Nat, k ≤ xs.length ∧ i = .int .i64 k ∧ Fills wr w.heap.size 29 2 (.slice (some ⟨w.heap.size, 0, none⟩) xs.length xs.length) xs.length L (k * 2) ∧ Below w.heap.size w wr) (fun i _ => xs.length - (intOf i).toNat)
  case atStart => exact ⟨0, by omega, rfl, by rw [Nat.zero_mul]; exact hF, hB⟩
  case round =>
    clear hF hB
    obtain ⟨k, hk, rfl, hF, hB⟩ := hrel
    by_cases hlt : k < xs.length
    · obtain ⟨bb, off, rfl, hbs, c0, c1⟩ := hc k hlt
      have e0 : wr.cell? ⟨bb, off + k * 2, none⟩ = some (.float .f64 xs[k].re_) := by rw [hB.cell (p := ⟨bb, off + k * 2, none⟩) hbs]; exact c0
      have e1 : wr.cell? ⟨bb, off + k * 2 + 1, none⟩ = some (.float .f64 xs[k].im_) := by rw [hB.cell (p := ⟨bb, off + k * 2 + 1, none⟩) hbs]; exact c1
      obtain ⟨g, hg, hbg, hgs, hcells⟩ := hF.at HL.out (by rw [HL.out]; omega)
      obtain rfl := (Addr.mk.inj (Option.some.inj hg)).1
      go_wp2_with fail
      refine (toPhasor_c xs[k] _).mono ?_
      rintro e w2 ⟨rfl, hB1⟩
      have hB2 := hB.trans (hB1.mono (by have := hB.size; omega))
      have hF1 := hF.below hB1
      obtain ⟨g2, hg2, hbg2, hgs2, hcells2⟩ := hF1.at HL.out (by rw [HL.out]; omega)
      obtain rfl := (Addr.mk.inj (Option.some.inj hg2)).1
      obtain ⟨⟨u0, hu0⟩, hf0⟩ := hcells2 (k * 2) (by rw [HL.out]; omega)
      obtain ⟨⟨u1, hu1⟩, hf1⟩ := hcells2 (k * 2 + 1) (by rw [HL.out]; omega)
      have l0 : L[k * 2]? = some (.float .f64 xs[k].re_) := hlk k hlt 0 (by omega)
      have l1 : L[k * 2 + 1]? = some (.float .f64 xs[k].im_) := hlk k hlt 1 (by omega)
      have s0 := (hF1.store _ l0).1
      have s1 := (s0.store _ l1).1
      have hB3 := ((hB2.setCell (p := ⟨w.heap.size, k * 2, none⟩) (Nat.le_refl _) (.float .f64 xs[k].re_)).setCell (p := ⟨w.heap.size, k * 2 + 1, none⟩) (Nat.le_refl _) (.float .f64 xs[k].im_))
      clear hc hcells hF hg hg2 hcells2 hF1 c0 c1 e0 e1 l0 l1 hB1 hB2
      unfold Phasor.val
      go_wp2
      go_roundw
      case rel => exact ⟨k+1, by omega, by go_num, by rw [Nat.add_mul]; exact s1, hB3⟩
      case measure => simp [intOf]; omega
    · go_wp2
      go_ret
      exact ⟨_, rfl, hF.done (by rw [HL.out]; omega), hB⟩

theorem eqPhasorS_c (v u : Value) (xs ys : List Phasor) (w : World) (h : Phasors w v xs) (g : Phasors w u ys) (hr : xs.map Phasor.rd = ys.map Phasor.rd) :
    Calls Try.prog 28 #[v, u] w fun e w' => e = .returned (.bool true) ∧ Below w.heap.size w w' := by
  have hys : ys.length = xs.length := by have := congrArg List.length hr; simpa using this.symm
  have hrk : ∀ k (h1 : k < xs.length) (h2 : k < ys.length), xs[k].rd = ys[k].rd := fun k h1 h2 => by
    have := congrArg (fun l => l[k]?) hr
    simpa [List.getElem?_map, List.getElem?_eq_getElem h1, List.getElem?_eq_getElem h2] using this
  obtain ⟨ad, cap, rfl, hl, hm, hc⟩ := h.open
  obtain ⟨ad2, cap2, rfl, hl2, hm2, hc2⟩ := g.open
  clear h g hr
  have hlen : xs.length ≤ 9223372036854775807 := by omega
  rw [hys]
  rw [hys] at hl2
  go_enter Try.func28, Try.ntmps28
  go_wp2
  go_loopw [5] (fun i wr => ∃ k : Nat, k ≤ xs.length ∧ i = .int .i64 k ∧ Below w.heap.size w wr) (fun i _ => xs.length - (intOf i).toNat)
  case atStart => exact ⟨0, by omega, rfl, Below.refl _ _⟩
  case round =>
    obtain ⟨k, hk, rfl, hB⟩ := hrel
    by_cases hlt : k < xs.length
    · obtain ⟨bb, off, rfl, hbs, c0, c1⟩ := hc k hlt
      obtain ⟨bb2, off2, rfl, hbs2, d0, d1⟩ := hc2 k (by omega)
      have kc : ∀ o, wr.cell? ⟨bb, o, none⟩ = w.cell? ⟨bb, o, none⟩ := fun o => hB.cell (p := ⟨bb, o, none⟩) hbs
      have kd : ∀ o, wr.cell? ⟨bb2, o, none⟩ = w.cell? ⟨bb2, o, none⟩ := fun o => hB.cell (p := ⟨bb2, o, none⟩) hbs2
      rw [← kc] at c0 c1
      rw [← kd] at d0 d1
      clear hc hc2 kc kd
      go_wp2
      go_still_tail 8, (by kernel_rfl)
      go_wp2_with fail
      refine (eqPhasor_c xs[k] (ys[k]'(by omega)) (hrk k hlt (by omega)) _).mono ?_
      rintro e w1 ⟨rfl, hB1⟩
      go_wp2
      go_roundw
      case rel => exact ⟨k+1, by omega, by go_num, hB.drew.trans (hB1.mono (by have := hB.size; simp; omega))⟩
      case measure => simp [intOf]; omega
    · go_wp2
      go_ret
      exact ⟨rfl, hB⟩

def markPhasor : Nat → Int → Value := fun _ x => .float .f64 (floatOfInt .f64 x)

theorem markPhasorS_c (base e : Nat) (v : Value) (n : Nat) (cs : List Value) (k : Int) (w : World) (hn : n ≤ 1099511627776) (h0 : 0 ≤ k) (h1 : k ≤ 1125899906842624) (h : w.ownsRow base e 2 v n cs) :
    Calls Try.prog 29 #[v, .int .i64 k] w fun r w' => r = .returned (.int .i64 (k + 2 * n)) ∧ w'.ownsRow base e 2 v n (markV markPhasor (n * 2) k) ∧ w.grownBy w' v.ownBlock := by
  obtain ⟨a, cap, rfl, hl, hm⟩ := owns_form h
  have hF := Fills.start (l := markV markPhasor (n * 2) k) h (by rw [markV_length])
  clear h
  go_enter Try.func29, Try.ntmps29
  go_wp2
  go_loopw [1, 5] (fun kk i wr => ∃ j : Nat, j ≤ n ∧ i = .int .i64 j ∧ kk = .int .i64 (k + 2 * j) ∧ Fills wr base e 2 (.slice a n cap) n (markV markPhasor (n * 2) k) (j * 2) ∧ w.grownBy wr (Value.slice a n cap).ownBlock) (fun _ i _ => n - (intOf i).toNat)
  case atStart => exact ⟨0, by omega, rfl, by simp, by rw [Nat.zero_mul]; exact hF, World.grownBy.refl _ _⟩
  case round =>
    clear hF
    obtain ⟨j, hj, rfl, rfl, hF, hG⟩ := hrel
    by_cases hlt : j < n
    · have hm4 : (markV markPhasor (n * 2) k).length = (n * 2) := markV_length _ _ _
      obtain ⟨g, rfl, hbg, hgs, hcells⟩ := hF.at (by rw [hm4]) (by omega)
      obtain ⟨⟨u0, hu0⟩, hf0⟩ := hcells (j * 2) (by omega)
      obtain ⟨⟨u1, hu1⟩, hf1⟩ := hcells (j * 2 + 1) (by omega)
      have s0 := hF.store (.float .f64 (floatOfInt .f64 (k + 2 * j))) (by rw [markV_get _ _ _ _ (by omega)]; unfold markPhasor; rw [show k + ((j * 2 : Nat) : Int) = k + 2 * j from by omega])
      have s1 := s0.1.store (.float .f64 (floatOfInt .f64 (k + 2 * j + 1))) (by rw [markV_get _ _ _ _ (by omega)]; unfold markPhasor; rw [show k + ((j * 2 + 1 : Nat) : Int) = k + 2 * j + 1 from by omega])
      have hG4 := grownBy_trans hG (grownBy_trans s0.2 s1.2)
      have hF4 := s1.1
      clear s0 s1 hcells hm4 hF hG
      go_wp2
      go_roundw
      case rel => exact ⟨j+1, by omega, by go_num, by go_num, by rw [Nat.add_mul]; exact hF4, hG4⟩
      case measure => simp [intOf]; omega
    · go_wp2
      go_ret
      exact ⟨ret_int (by omega), hF.done (by rw [markV_length]; omega), hG⟩

theorem heldPhasorS_c (v : Value) (n : Nat) (k : Int) (w : World) (hn : n ≤ 1099511627776) (h0 : 0 ≤ k) (h1 : k ≤ 1125899906842624) (h : Flat w v n 2 (markV markPhasor (n * 2) k)) :
    Calls Try.prog 30 #[v, .int .i64 k] w fun r w' => r = .returned (.int .i64 (k + 2 * n)) ∧ Below w.heap.size w w' := by
  obtain ⟨a, cap, rfl, hl, hm, hc⟩ := flat_cells h
  clear h
  go_enter Try.func30, Try.ntmps30
  go_wp2
  go_loopw [1, 5] (fun kk i wr => ∃ j : Nat, j ≤ n ∧ i = .int .i64 j ∧ kk = .int .i64 (k + 2 * j) ∧ w = wr) (fun _ i _ => n - (intOf i).toNat)
  case atStart => exact ⟨0, by omega, rfl, by simp, by simp⟩
  case round =>
    obtain ⟨j, hj, rfl, rfl, rfl⟩ := hrel
    by_cases hlt : j < n
    · obtain ⟨b, off, rfl, hbs, hcc⟩ := hc j hlt
      have e0 : w.cell? ⟨b, off + j * 2, none⟩ = some (.float .f64 (floatOfInt .f64 (k + 2 * j))) := by have := hcc 0 (by omega); rw [markV_get _ _ _ _ (by omega)] at this; refine this.trans ?_; unfold markPhasor; rw [show k + ((j * 2 + 0 : Nat) : Int) = k + 2 * j from by omega]
      have e1 : w.cell? ⟨b, off + j * 2 + 1, none⟩ = some (.float .f64 (floatOfInt .f64 (k + 2 * j + 1))) := by have := hcc 1 (by omega); rw [markV_get _ _ _ _ (by omega)] at this; refine this.trans ?_; unfold markPhasor; rw [show k + ((j * 2 + 1 : Nat) : Int) = k + 2 * j + 1 from by omega]
      clear hc hcc
      have fo : ∀ x, FloatKind.f64.format.order (floatOfInt .f64 x) (floatOfInt .f64 x) = some .eq := order_ofInt
      go_wp2
      go_roundw
      case rel => exact ⟨j+1, by omega, by go_num, by go_num, trivial⟩
      case measure => simp [intOf]; omega
    · go_wp2
      go_ret
      exact ⟨ret_int (by omega), Below.refl _ _⟩

theorem szPhasorS_c (a : Option Addr) (n cap : Nat) (k : Int) (w : World) (hn : n ≤ 9223372036854775807) (h0 : 0 ≤ k) (h1 : k ≤ 1048576) :
    Calls Try.prog 23 #[.slice a n cap, .int .i64 k] w fun e w' => e = .returned (.int .i64 (if k < n then -1 else k - n)) ∧ w = w' := by
  go_enter Try.func23, Try.ntmps23
  go_wp2
  all_goals go_ret
  all_goals exact ⟨rfl, rfl⟩

structure Slim where
  re_ : Nat
  im_ : Nat

def Slim.enc (o : Slim) : List Value := [.float .f32 o.re_, .float .f32 o.im_]

def Slim.val (o : Slim) : Value := .agg #[.float .f32 o.re_, .float .f32 o.im_]

/-- What it reads as, whatever its NaNs. -/
def Slim.rd (o : Slim) : R × R := (rdF .f32 o.re_, rdF .f32 o.im_)

/-- What a walk over a slice of these is told. -/
def Slims (w : World) (v : Value) (xs : List Slim) : Prop := Flat w v xs.length 2 (xs.flatMap Slim.enc)

theorem Slims.below {w w' : World} {v : Value} {xs : List Slim} (h : Slims w v xs) (hb : Below w.heap.size w w') : Slims w' v xs := Flat.below h hb

theorem Slims.open {w : World} {v : Value} {xs : List Slim} (h : Slims w v xs) : ∃ a cap, v = .slice a xs.length cap ∧ xs.length ≤ cap ∧ cap ≤ 9223372036854775807 ∧
    ∀ k, (hk : k < xs.length) → ∃ b off, a = some ⟨b, off, none⟩ ∧ b < w.heap.size ∧ w.cell? ⟨b, off + k * 2, none⟩ = some (.float .f32 xs[k].re_) ∧ w.cell? ⟨b, off + k * 2 + 1, none⟩ = some (.float .f32 xs[k].im_) := by
  obtain ⟨a, cap, e, h1, h2, h3⟩ := flat_elem (f := Slim.enc) (sz := 2) (fun _ => rfl) h
  refine ⟨a, cap, e, h1, h2, fun k hk => ?_⟩
  obtain ⟨b, off, ha, hs, hc⟩ := h3 k hk
  exact ⟨b, off, ha, hs, hc 0 (by omega), hc 1 (by omega)⟩

theorem toSlim_c (o : Slim) (w : World) :
    Calls Try.prog 16 #[o.val] w fun e w' => e = .returned o.val ∧ Below w.heap.size w w' := by
  obtain ⟨a0, a1⟩ := o
  unfold Slim.val
  dsimp only
  go_enter Try.func16, Try.ntmps16
  go_wp2
  exact bodyPost_ret (v := .agg #[.float .f32 a0, .float .f32 a1]) (by simp [results, Try.results16, go_sem]) rfl ⟨rfl, (by repeat (first | exact Below.refl _ _ | refine below_drewN ?_ _ | refine Below.alloc ?_ (by simp; try omega) _))⟩

theorem eqSlim_c (o p : Slim) (h : o.rd = p.rd) (w : World) :
    Calls Try.prog 14 #[o.val, p.val] w fun e w' => e = .returned (.bool true) ∧ Below w.heap.size w w' := by
  obtain ⟨a0, a1⟩ := o
  obtain ⟨b0, b1⟩ := p
  unfold Slim.rd at h
  dsimp only at h
  obtain ⟨h0, h1⟩ := Prod.mk.inj h
  unfold Slim.val
  dsimp only
  go_enter Try.func14, Try.ntmps14
  go_wp2_with fail
  refine (sameFloat_c _ _ (rd_widen h0 _ _) _).mono ?_
  rintro e w1 ⟨rfl, hB1⟩
  have ca01 : w1.cell? ⟨w.heap.size, 1, none⟩ = some (.float .f32 a1) := by rw [hB1.cell (p := ⟨w.heap.size, 1, none⟩) (by simp <;> omega)]; simp [go_sem]
  have cb01 : w1.cell? ⟨w.heap.size + 1, 1, none⟩ = some (.float .f32 b1) := by rw [hB1.cell (p := ⟨w.heap.size + 1, 1, none⟩) (by simp <;> omega)]; simp [go_sem]
  go_wp2_with fail
  refine (sameFloat_c _ _ (rd_widen h1 _ _) _).mono ?_
  rintro e w2 ⟨rfl, hB2⟩
  have hB : Below w.heap.size w w2 := Below.trans (by first | exact Below.trans (by repeat (first | exact Below.refl _ _ | refine below_drewN ?_ _ | refine Below.alloc ?_ (by simp; try omega) _)) (hB1.mono (by simp; try omega)) | exact below_drewN (Below.trans (by repeat (first | exact Below.refl _ _ | refine below_drewN ?_ _ | refine Below.alloc ?_ (by simp; try omega) _)) (hB1.mono (by simp; try omega))) _) (hB2.mono (by have := hB1.size; simp at this ⊢; try omega))
  go_wp2
  go_ret
  exact ⟨rfl, hB⟩

structure Turn4 where
  kind_ : Int
  at_ : Int
  from_ : Int
  z0_ : Nat
  z1_ : Nat

def Turn4.enc (o : Turn4) : List Value := [.int .i64 o.kind_, .int .i64 o.at_, .int .i64 o.from_, .float .f64 o.z0_, .float .f64 o.z1_]

def Turn4.val (o : Turn4) : Value := .agg #[.int .i64 o.kind_, .int .i64 o.at_, .int .i64 o.from_, .float .f64 o.z0_, .float .f64 o.z1_]

/-- What a walk over a slice of these is told. -/
def Turn4s (w : World) (v : Value) (xs : List Turn4) : Prop := Flat w v xs.length 5 (xs.flatMap Turn4.enc)

theorem Turn4s.below {w w' : World} {v : Value} {xs : List Turn4} (h : Turn4s w v xs) (hb : Below w.heap.size w w') : Turn4s w' v xs := Flat.below h hb

theorem Turn4s.open {w : World} {v : Value} {xs : List Turn4} (h : Turn4s w v xs) : ∃ a cap, v = .slice a xs.length cap ∧ xs.length ≤ cap ∧ cap ≤ 9223372036854775807 ∧
    ∀ k, (hk : k < xs.length) → ∃ b off, a = some ⟨b, off, none⟩ ∧ b < w.heap.size ∧ w.cell? ⟨b, off + k * 5, none⟩ = some (.int .i64 xs[k].kind_) ∧ w.cell? ⟨b, off + k * 5 + 1, none⟩ = some (.int .i64 xs[k].at_) ∧ w.cell? ⟨b, off + k * 5 + 2, none⟩ = some (.int .i64 xs[k].from_) ∧ w.cell? ⟨b, off + k * 5 + 3, none⟩ = some (.float .f64 xs[k].z0_) ∧ w.cell? ⟨b, off + k * 5 + 4, none⟩ = some (.float .f64 xs[k].z1_) := by
  obtain ⟨a, cap, e, h1, h2, h3⟩ := flat_elem (f := Turn4.enc) (sz := 5) (fun _ => rfl) h
  refine ⟨a, cap, e, h1, h2, fun k hk => ?_⟩
  obtain ⟨b, off, ha, hs, hc⟩ := h3 k hk
  exact ⟨b, off, ha, hs, hc 0 (by omega), hc 1 (by omega), hc 2 (by omega), hc 3 (by omega), hc 4 (by omega)⟩

theorem toTurn4_c (o : Turn4) (w : World) :
    Calls Try.prog 26 #[o.val] w fun e w' => e = .returned o.val ∧ Below w.heap.size w w' := by
  obtain ⟨a0, a1, a2, a3, a4⟩ := o
  unfold Turn4.val
  dsimp only
  go_enter Try.func26, Try.ntmps26
  go_wp2_with fail
  refine (toPhasor_c ⟨a3, a4⟩ _).mono ?_
  rintro e w2 ⟨rfl, hB⟩
  have c0 : w2.cell? ⟨w.heap.size + 1 + 1, 0, none⟩ = some (.int .i64 a0) := by rw [hB.cell (p := ⟨w.heap.size + 1 + 1, 0, none⟩) (by simp)]; simp [go_sem]
  have cf0 : w2.frozen? ⟨w.heap.size + 1 + 1, 0, none⟩ = false := by rw [hB.frozen (p := ⟨w.heap.size + 1 + 1, 0, none⟩) (by simp)]; simp [go_sem]
  have c1 : w2.cell? ⟨w.heap.size + 1 + 1, 1, none⟩ = some (.int .i64 a1) := by rw [hB.cell (p := ⟨w.heap.size + 1 + 1, 1, none⟩) (by simp)]; simp [go_sem]
  have cf1 : w2.frozen? ⟨w.heap.size + 1 + 1, 1, none⟩ = false := by rw [hB.frozen (p := ⟨w.heap.size + 1 + 1, 1, none⟩) (by simp)]; simp [go_sem]
  have c2 : w2.cell? ⟨w.heap.size + 1 + 1, 2, none⟩ = some (.int .i64 a2) := by rw [hB.cell (p := ⟨w.heap.size + 1 + 1, 2, none⟩) (by simp)]; simp [go_sem]
  have cf2 : w2.frozen? ⟨w.heap.size + 1 + 1, 2, none⟩ = false := by rw [hB.frozen (p := ⟨w.heap.size + 1 + 1, 2, none⟩) (by simp)]; simp [go_sem]
  have c3 : w2.cell? ⟨w.heap.size + 1 + 1, 3, none⟩ = some (.float .f64 0) := by rw [hB.cell (p := ⟨w.heap.size + 1 + 1, 3, none⟩) (by simp)]; simp [go_sem]
  have cf3 : w2.frozen? ⟨w.heap.size + 1 + 1, 3, none⟩ = false := by rw [hB.frozen (p := ⟨w.heap.size + 1 + 1, 3, none⟩) (by simp)]; simp [go_sem]
  have c4 : w2.cell? ⟨w.heap.size + 1 + 1, 4, none⟩ = some (.float .f64 0) := by rw [hB.cell (p := ⟨w.heap.size + 1 + 1, 4, none⟩) (by simp)]; simp [go_sem]
  have cf4 : w2.frozen? ⟨w.heap.size + 1 + 1, 4, none⟩ = false := by rw [hB.frozen (p := ⟨w.heap.size + 1 + 1, 4, none⟩) (by simp)]; simp [go_sem]
  have d0 : w2.cell? ⟨w.heap.size + 1, 0, none⟩ = some (.int .i64 0) := by rw [hB.cell (p := ⟨w.heap.size + 1, 0, none⟩) (by simp)]; simp [go_sem]
  have df0 : w2.frozen? ⟨w.heap.size + 1, 0, none⟩ = false := by rw [hB.frozen (p := ⟨w.heap.size + 1, 0, none⟩) (by simp)]; simp [go_sem]
  have d1 : w2.cell? ⟨w.heap.size + 1, 1, none⟩ = some (.int .i64 0) := by rw [hB.cell (p := ⟨w.heap.size + 1, 1, none⟩) (by simp)]; simp [go_sem]
  have df1 : w2.frozen? ⟨w.heap.size + 1, 1, none⟩ = false := by rw [hB.frozen (p := ⟨w.heap.size + 1, 1, none⟩) (by simp)]; simp [go_sem]
  have d2 : w2.cell? ⟨w.heap.size + 1, 2, none⟩ = some (.int .i64 0) := by rw [hB.cell (p := ⟨w.heap.size + 1, 2, none⟩) (by simp)]; simp [go_sem]
  have df2 : w2.frozen? ⟨w.heap.size + 1, 2, none⟩ = false := by rw [hB.frozen (p := ⟨w.heap.size + 1, 2, none⟩) (by simp)]; simp [go_sem]
  have d3 : w2.cell? ⟨w.heap.size + 1, 3, none⟩ = some (.float .f64 0) := by rw [hB.cell (p := ⟨w.heap.size + 1, 3, none⟩) (by simp)]; simp [go_sem]
  have df3 : w2.frozen? ⟨w.heap.size + 1, 3, none⟩ = false := by rw [hB.frozen (p := ⟨w.heap.size + 1, 3, none⟩) (by simp)]; simp [go_sem]
  have d4 : w2.cell? ⟨w.heap.size + 1, 4, none⟩ = some (.float .f64 0) := by rw [hB.cell (p := ⟨w.heap.size + 1, 4, none⟩) (by simp)]; simp [go_sem]
  have df4 : w2.frozen? ⟨w.heap.size + 1, 4, none⟩ = false := by rw [hB.frozen (p := ⟨w.heap.size + 1, 4, none⟩) (by simp)]; simp [go_sem]
  unfold Phasor.val
  have hB2 : Below w.heap.size w w2 := Below.trans (by repeat (first | exact Below.refl _ _ | refine below_drewN ?_ _ | refine Below.alloc ?_ (by simp; try omega) _)) (hB.mono (by simp; omega))
  clear hB
  go_wp2
  refine bodyPost_ret (v := .agg #[.int .i64 a0, .int .i64 a1, .int .i64 a2, .float .f64 a3, .float .f64 a4]) ?_ rfl ⟨rfl, ?_⟩
  · simp [results, Try.results26, go_sem, d0, d1, d2, d3, d4]
  · repeat (refine Below.setCell ?_ (by simp; try omega) _)
    exact hB2

theorem eqTurn4_c (o : Turn4) (w : World) :
    Calls Try.prog 51 #[o.val, o.val] w fun e w' => e = .returned (.bool true) ∧ Below w.heap.size w w' := by
  obtain ⟨a0, a1, a2, a3, a4⟩ := o
  unfold Turn4.val
  dsimp only
  go_enter Try.func51, Try.ntmps51
  go_wp2_with fail
  refine (eqPhasor_c ⟨a3, a4⟩ ⟨a3, a4⟩ rfl _).mono ?_
  rintro e w2 ⟨rfl, hB⟩
  have hB2 : Below w.heap.size w w2 := Below.trans (by repeat (first | exact Below.refl _ _ | refine below_drewN ?_ _ | refine Below.alloc ?_ (by simp; try omega) _)) (hB.mono (by simp; try omega))
  clear hB
  go_wp2
  go_ret
  exact ⟨rfl, hB2⟩

theorem infoTurn4 : (Try.prog.info? 51).map (fun i => (i.zero, i.size, i.bytes)) = some (some (.agg #[.int .i64 0, .int .i64 0, .int .i64 0, .float .f64 0, .float .f64 0]), 5, 40) := by kernel_rfl

theorem toTurn4S_c (v : Value) (xs : List Turn4) (w : World) (hx : xs.length ≤ 1048576) (h : Turn4s w v xs) :
    Calls Try.prog 33 #[v] w fun e w' => ∃ v', e = .returned v' ∧ w'.ownsRow w.heap.size 51 5 v' xs.length (xs.flatMap Turn4.enc) ∧ Below w.heap.size w w' := by
  obtain ⟨ad, cap, rfl, hl, hm, hc⟩ := h.open
  clear h
  have hlen : xs.length ≤ 9223372036854775807 := by omega
  obtain ⟨i0, hi, hz0, hz1, hz2⟩ := info_parts infoTurn4
  have hL : (xs.flatMap Turn4.enc).length = xs.length * 5 := flatMap_len _ 5 (fun _ => rfl) xs
  have hlk : ∀ k, (hk : k < xs.length) → ∀ j, j < 5 → (xs.flatMap Turn4.enc)[k * 5 + j]? = (Turn4.enc xs[k])[j]? := fun k hk j hj => flatMap_get Turn4.enc 5 (fun _ => rfl) xs k hk j hj
  generalize xs.flatMap Turn4.enc = L at *
  have HL := hid hL
  clear hL
  go_enter Try.func33, Try.ntmps33
  go_wp2_with (at_make; refine wpList_make_full _ rfl _ _ 59 rfl (w.heap.size) 51 i0 (.agg #[.int .i64 0, .int .i64 0, .int .i64 0, .float .f64 0, .float .f64 0]) 5 Try.underlying59 hi hz0 hz1 _ _ _ _ xs.length rfl rfl rfl rfl (by rw [hz2]; omega) (by unfold maxLen; omega) (Nat.le_refl _) ?_)
  intro w1 hown hgrow
  have hB := (Below.refl w.heap.size w).grown hgrow (Nat.le_refl _) (by simp)
  have hF := Fills.start (l := L) hown HL.out
  clear hown hgrow
  go_wp2
  go_loopw [4] (fun i wr => ∃ k : Nat, k ≤ xs.length ∧ i = .int .i64 k ∧ Fills wr w.heap.size 51 5 (.slice (some ⟨w.heap.size, 0, none⟩) xs.length xs.length) xs.length L (k * 5) ∧ Below w.heap.size w wr) (fun i _ => xs.length - (intOf i).toNat)
  case atStart => exact ⟨0, by omega, rfl, by rw [Nat.zero_mul]; exact hF, hB⟩
  case round =>
    clear hF hB
    obtain ⟨k, hk, rfl, hF, hB⟩ := hrel
    by_cases hlt : k < xs.length
    · obtain ⟨bb, off, rfl, hbs, c0, c1, c2, c3, c4⟩ := hc k hlt
      have e0 : wr.cell? ⟨bb, off + k * 5, none⟩ = some (.int .i64 xs[k].kind_) := by rw [hB.cell (p := ⟨bb, off + k * 5, none⟩) hbs]; exact c0
      have e1 : wr.cell? ⟨bb, off + k * 5 + 1, none⟩ = some (.int .i64 xs[k].at_) := by rw [hB.cell (p := ⟨bb, off + k * 5 + 1, none⟩) hbs]; exact c1
      have e2 : wr.cell? ⟨bb, off + k * 5 + 2, none⟩ = some (.int .i64 xs[k].from_) := by rw [hB.cell (p := ⟨bb, off + k * 5 + 2, none⟩) hbs]; exact c2
      have e3 : wr.cell? ⟨bb, off + k * 5 + 3, none⟩ = some (.float .f64 xs[k].z0_) := by rw [hB.cell (p := ⟨bb, off + k * 5 + 3, none⟩) hbs]; exact c3
      have e4 : wr.cell? ⟨bb, off + k * 5 + 4, none⟩ = some (.float .f64 xs[k].z1_) := by rw [hB.cell (p := ⟨bb, off + k * 5 + 4, none⟩) hbs]; exact c4
      obtain ⟨g, hg, hbg, hgs, hcells⟩ := hF.at HL.out (by rw [HL.out]; omega)
      obtain rfl := (Addr.mk.inj (Option.some.inj hg)).1
      go_wp2_with fail
      refine (toTurn4_c xs[k] _).mono ?_
      rintro e w2 ⟨rfl, hB1⟩
      have hB2 := hB.trans (hB1.mono (by have := hB.size; omega))
      have hF1 := hF.below hB1
      obtain ⟨g2, hg2, hbg2, hgs2, hcells2⟩ := hF1.at HL.out (by rw [HL.out]; omega)
      obtain rfl := (Addr.mk.inj (Option.some.inj hg2)).1
      obtain ⟨⟨u0, hu0⟩, hf0⟩ := hcells2 (k * 5) (by rw [HL.out]; omega)
      obtain ⟨⟨u1, hu1⟩, hf1⟩ := hcells2 (k * 5 + 1) (by rw [HL.out]; omega)
      obtain ⟨⟨u2, hu2⟩, hf2⟩ := hcells2 (k * 5 + 2) (by rw [HL.out]; omega)
      obtain ⟨⟨u3, hu3⟩, hf3⟩ := hcells2 (k * 5 + 3) (by rw [HL.out]; omega)
      obtain ⟨⟨u4, hu4⟩, hf4⟩ := hcells2 (k * 5 + 4) (by rw [HL.out]; omega)
      have l0 : L[k * 5]? = some (.int .i64 xs[k].kind_) := hlk k hlt 0 (by omega)
      have l1 : L[k * 5 + 1]? = some (.int .i64 xs[k].at_) := hlk k hlt 1 (by omega)
      have l2 : L[k * 5 + 2]? = some (.int .i64 xs[k].from_) := hlk k hlt 2 (by omega)
      have l3 : L[k * 5 + 3]? = some (.float .f64 xs[k].z0_) := hlk k hlt 3 (by omega)
      have l4 : L[k * 5 + 4]? = some (.float .f64 xs[k].z1_) := hlk k hlt 4 (by omega)
      have s0 := (hF1.store _ l0).1
      have s1 := (s0.store _ l1).1
      have s2 := (s1.store _ l2).1
      have s3 := (s2.store _ l3).1
      have s4 := (s3.store _ l4).1
      have hB3 := (((((hB2.setCell (p := ⟨w.heap.size, k * 5, none⟩) (Nat.le_refl _) (.int .i64 xs[k].kind_)).setCell (p := ⟨w.heap.size, k * 5 + 1, none⟩) (Nat.le_refl _) (.int .i64 xs[k].at_)).setCell (p := ⟨w.heap.size, k * 5 + 2, none⟩) (Nat.le_refl _) (.int .i64 xs[k].from_)).setCell (p := ⟨w.heap.size, k * 5 + 3, none⟩) (Nat.le_refl _) (.float .f64 xs[k].z0_)).setCell (p := ⟨w.heap.size, k * 5 + 4, none⟩) (Nat.le_refl _) (.float .f64 xs[k].z1_))
      clear hc hcells hF hg hg2 hcells2 hF1 c0 c1 c2 c3 c4 e0 e1 e2 e3 e4 l0 l1 l2 l3 l4 hB1 hB2
      unfold Turn4.val
      go_wp2
      go_roundw
      case rel => exact ⟨k+1, by omega, by go_num, by rw [Nat.add_mul]; exact s4, hB3⟩
      case measure => simp [intOf]; omega
    · go_wp2
      go_ret
      exact ⟨_, rfl, hF.done (by rw [HL.out]; omega), hB⟩

theorem eqTurn4S_c (v u : Value) (xs : List Turn4) (w : World) (h : Turn4s w v xs) (g : Turn4s w u xs) :
    Calls Try.prog 35 #[v, u] w fun e w' => e = .returned (.bool true) ∧ Below w.heap.size w w' := by
  obtain ⟨ad, cap, rfl, hl, hm, hc⟩ := h.open
  obtain ⟨ad2, cap2, rfl, hl2, hm2, hc2⟩ := g.open
  clear h g
  have hlen : xs.length ≤ 9223372036854775807 := by omega
  go_enter Try.func35, Try.ntmps35
  go_wp2
  go_loopw [5] (fun i wr => ∃ k : Nat, k ≤ xs.length ∧ i = .int .i64 k ∧ Below w.heap.size w wr) (fun i _ => xs.length - (intOf i).toNat)
  case atStart => exact ⟨0, by omega, rfl, Below.refl _ _⟩
  case round =>
    obtain ⟨k, hk, rfl, hB⟩ := hrel
    by_cases hlt : k < xs.length
    · obtain ⟨bb, off, rfl, hbs, c0, c1, c2, c3, c4⟩ := hc k hlt
      obtain ⟨bb2, off2, rfl, hbs2, d0, d1, d2, d3, d4⟩ := hc2 k hlt
      have kc : ∀ o, wr.cell? ⟨bb, o, none⟩ = w.cell? ⟨bb, o, none⟩ := fun o => hB.cell (p := ⟨bb, o, none⟩) hbs
      have kd : ∀ o, wr.cell? ⟨bb2, o, none⟩ = w.cell? ⟨bb2, o, none⟩ := fun o => hB.cell (p := ⟨bb2, o, none⟩) hbs2
      rw [← kc] at c0 c1 c2 c3 c4
      rw [← kd] at d0 d1 d2 d3 d4
      clear hc hc2 kc kd
      go_wp2
      go_still_tail 8, (by kernel_rfl)
      go_wp2_with fail
      refine (eqTurn4_c xs[k] _).mono ?_
      rintro e w1 ⟨rfl, hB1⟩
      go_wp2
      go_roundw
      case rel => exact ⟨k+1, by omega, by go_num, hB.drew.trans (hB1.mono (by have := hB.size; simp; omega))⟩
      case measure => simp [intOf]; omega
    · go_wp2
      go_ret
      exact ⟨rfl, hB⟩

def markTurn4 : Nat → Int → Value := fun j x => if j % 5 = 3 ∨ j % 5 = 4 then .float .f64 (floatOfInt .f64 x) else .int .i64 x

theorem markTurn4S_c (base e : Nat) (v : Value) (n : Nat) (cs : List Value) (k : Int) (w : World) (hn : n ≤ 1099511627776) (h0 : 0 ≤ k) (h1 : k ≤ 1125899906842624) (h : w.ownsRow base e 5 v n cs) :
    Calls Try.prog 36 #[v, .int .i64 k] w fun r w' => r = .returned (.int .i64 (k + 5 * n)) ∧ w'.ownsRow base e 5 v n (markV markTurn4 (n * 5) k) ∧ w.grownBy w' v.ownBlock := by
  obtain ⟨a, cap, rfl, hl, hm⟩ := owns_form h
  have hF := Fills.start (l := markV markTurn4 (n * 5) k) h (by rw [markV_length])
  clear h
  go_enter Try.func36, Try.ntmps36
  go_wp2
  go_loopw [1, 5] (fun kk i wr => ∃ j : Nat, j ≤ n ∧ i = .int .i64 j ∧ kk = .int .i64 (k + 5 * j) ∧ Fills wr base e 5 (.slice a n cap) n (markV markTurn4 (n * 5) k) (j * 5) ∧ w.grownBy wr (Value.slice a n cap).ownBlock) (fun _ i _ => n - (intOf i).toNat)
  case atStart => exact ⟨0, by omega, rfl, by simp, by rw [Nat.zero_mul]; exact hF, World.grownBy.refl _ _⟩
  case round =>
    clear hF
    obtain ⟨j, hj, rfl, rfl, hF, hG⟩ := hrel
    by_cases hlt : j < n
    · have hm4 : (markV markTurn4 (n * 5) k).length = (n * 5) := markV_length _ _ _
      obtain ⟨g, rfl, hbg, hgs, hcells⟩ := hF.at (by rw [hm4]) (by omega)
      obtain ⟨⟨u0, hu0⟩, hf0⟩ := hcells (j * 5) (by omega)
      obtain ⟨⟨u1, hu1⟩, hf1⟩ := hcells (j * 5 + 1) (by omega)
      obtain ⟨⟨u2, hu2⟩, hf2⟩ := hcells (j * 5 + 2) (by omega)
      obtain ⟨⟨u3, hu3⟩, hf3⟩ := hcells (j * 5 + 3) (by omega)
      obtain ⟨⟨u4, hu4⟩, hf4⟩ := hcells (j * 5 + 4) (by omega)
      have s0 := hF.store (.int .i64 (k + 5 * j)) (by rw [markV_get _ _ _ _ (by omega)]; unfold markTurn4; rw [if_neg (by omega), show k + ((j * 5 : Nat) : Int) = k + 5 * j from by omega])
      have s1 := s0.1.store (.int .i64 (k + 5 * j + 1)) (by rw [markV_get _ _ _ _ (by omega)]; unfold markTurn4; rw [if_neg (by omega), show k + ((j * 5 + 1 : Nat) : Int) = k + 5 * j + 1 from by omega])
      have s2 := s1.1.store (.int .i64 (k + 5 * j + 1 + 1)) (by rw [markV_get _ _ _ _ (by omega)]; unfold markTurn4; rw [if_neg (by omega), show k + ((j * 5 + 2 : Nat) : Int) = k + 5 * j + 1 + 1 from by omega])
      have s3 := s2.1.store (.float .f64 (floatOfInt .f64 (k + 5 * j + 1 + 1 + 1))) (by rw [markV_get _ _ _ _ (by omega)]; unfold markTurn4; rw [if_pos (by omega), show k + ((j * 5 + 3 : Nat) : Int) = k + 5 * j + 1 + 1 + 1 from by omega])
      have s4 := s3.1.store (.float .f64 (floatOfInt .f64 (k + 5 * j + 1 + 1 + 1 + 1))) (by rw [markV_get _ _ _ _ (by omega)]; unfold markTurn4; rw [if_pos (by omega), show k + ((j * 5 + 4 : Nat) : Int) = k + 5 * j + 1 + 1 + 1 + 1 from by omega])
      have hG4 := grownBy_trans hG (grownBy_trans (grownBy_trans (grownBy_trans (grownBy_trans s0.2 s1.2) s2.2) s3.2) s4.2)
      have hF4 := s4.1
      clear s0 s1 s2 s3 s4 hcells hm4 hF hG
      go_wp2
      go_roundw
      case rel => exact ⟨j+1, by omega, by go_num, by go_num, by rw [Nat.add_mul]; exact hF4, hG4⟩
      case measure => simp [intOf]; omega
    · go_wp2
      go_ret
      exact ⟨ret_int (by omega), hF.done (by rw [markV_length]; omega), hG⟩


theorem szTurn4S_c (a : Option Addr) (n cap : Nat) (k : Int) (w : World) (hn : n ≤ 9223372036854775807) (h0 : 0 ≤ k) (h1 : k ≤ 1048576) :
    Calls Try.prog 31 #[.slice a n cap, .int .i64 k] w fun e w' => e = .returned (.int .i64 (if k < n then -1 else k - n)) ∧ w = w' := by
  go_enter Try.func31, Try.ntmps31
  go_wp2
  all_goals go_ret
  all_goals exact ⟨rfl, rfl⟩

end Go.Proofs.Ytjcnoogloncbbaa
