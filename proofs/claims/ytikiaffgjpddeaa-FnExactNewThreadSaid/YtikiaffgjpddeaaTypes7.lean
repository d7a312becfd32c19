/- Texts of the claim. -/
import Derived.Test.YtikiaffgjpddeaaProg
import Derived.Test.YtikiaffgjpddeaaTypes6
namespace Go.Proofs.Ytikiaffgjpddeaa
open Go.RowKit Go.Proofs Go.Own
set_option maxRecDepth 100000

theorem infoInt : (Try.prog.info? 3).map (fun i => (i.zero, i.size, i.bytes)) = some (some (.int .i64 0), 1, 8) := by kernel_rfl






structure Head where
  value_ : Int
  version_ : Int
  desc_ : Int

def Head.enc (o : Head) : List Value := [.int .i64 o.value_, .int .i64 o.version_, .int .i64 o.desc_]

def Head.val (o : Head) : Value := .agg #[.int .i64 o.value_, .int .i64 o.version_, .int .i64 o.desc_]

/-- What a walk over a slice of these is told. -/
def Heads (w : World) (v : Value) (xs : List Head) : Prop := Flat w v xs.length 3 (xs.flatMap Head.enc)

theorem Heads.below {w w' : World} {v : Value} {xs : List Head} (h : Heads w v xs) (hb : Below w.heap.size w w') : Heads w' v xs := Flat.below h hb

theorem Heads.open {w : World} {v : Value} {xs : List Head} (h : Heads w v xs) : ∃ a cap, v = .slice a xs.length cap ∧ xs.length ≤ cap ∧ cap ≤ 9223372036854775807 ∧
    ∀ k, (hk : k < xs.length) → ∃ b off, a = some ⟨b, off, none⟩ ∧ b < w.heap.size ∧ w.cell? ⟨b, off + k * 3, none⟩ = some (.int .i64 xs[k].value_) ∧ w.cell? ⟨b, off + k * 3 + 1, none⟩ = some (.int .i64 xs[k].version_) ∧ w.cell? ⟨b, off + k * 3 + 2, none⟩ = some (.int .i64 xs[k].desc_) := by
  obtain ⟨a, cap, e, h1, h2, h3⟩ := flat_elem (f := Head.enc) (sz := 3) (fun _ => rfl) h
  refine ⟨a, cap, e, h1, h2, fun k hk => ?_⟩
  obtain ⟨b, off, ha, hs, hc⟩ := h3 k hk
  exact ⟨b, off, ha, hs, hc 0 (by omega), hc 1 (by omega), hc 2 (by omega)⟩

theorem toHead_c (o : Head) (w : World) :
    Calls Try.prog 64 #[o.val] w fun e w' => e = .returned o.val ∧ Below w.heap.size w w' := by
  obtain ⟨a0, a1, a2⟩ := o
  unfold Head.val
  dsimp only
  go_enter Try.func64, Try.ntmps64
  go_wp2
  exact bodyPost_ret (v := .agg #[.int .i64 a0, .int .i64 a1, .int .i64 a2]) (by simp [results, Try.results64, go_sem]) rfl ⟨rfl, (by repeat (first | exact Below.refl _ _ | refine below_drewN ?_ _ | refine Below.alloc ?_ (by simp; try omega) _))⟩

theorem eqHead_c (o : Head) (w : World) :
    Calls Try.prog 76 #[o.val, o.val] w fun e w' => e = .returned (.bool true) ∧ Below w.heap.size w w' := by
  obtain ⟨a0, a1, a2⟩ := o
  unfold Head.val
  dsimp only
  go_enter Try.func76, Try.ntmps76
  go_wp2
  go_ret
  exact ⟨rfl, (by repeat (first | exact Below.refl _ _ | refine below_drewN ?_ _ | refine Below.alloc ?_ (by simp; try omega) _))⟩

theorem infoHead : (Try.prog.info? 103).map (fun i => (i.zero, i.size, i.bytes)) = some (some (.agg #[.int .i64 0, .int .i64 0, .int .i64 0]), 3, 24) := by kernel_rfl

theorem toHeadS_c (v : Value) (xs : List Head) (w : World) (hx : xs.length ≤ 1048576) (h : Heads w v xs) :
    Calls Try.prog 33 #[v] w fun e w' => ∃ v', e = .returned v' ∧ w'.ownsRow w.heap.size 103 3 v' xs.length (xs.flatMap Head.enc) ∧ Below w.heap.size w w' := by
  obtain ⟨ad, cap, rfl, hl, hm, hc⟩ := h.open
  clear h
  have hlen : xs.length ≤ 9223372036854775807 := by omega
  obtain ⟨i0, hi, hz0, hz1, hz2⟩ := info_parts infoHead
  have hL : (xs.flatMap Head.enc).length = xs.length * 3 := flatMap_len _ 3 (fun _ => rfl) xs
  have hlk : ∀ k, (hk : k < xs.length) → ∀ j, j < 3 → (xs.flatMap Head.enc)[k * 3 + j]? = (Head.enc xs[k])[j]? := fun k hk j hj => flatMap_get Head.enc 3 (fun _ => rfl) xs k hk j hj
  generalize xs.flatMap Head.enc = L at *
  have HL := hid hL
  clear hL
  go_enter Try.func33, Try.ntmps33
  go_wp2_with (at_make; refine wpList_make_full _ rfl _ _ 35 rfl (w.heap.size) 103 i0 (.agg #[.int .i64 0, .int .i64 0, .int .i64 0]) 3 Try.underlying35 hi hz0 hz1 _ _ _ _ xs.length rfl rfl rfl rfl (by rw [hz2]; omega) (by unfold maxLen; omega) (Nat.le_refl _) ?_)
  intro w1 hown hgrow
  have hB := (Below.refl w.heap.size w).grown hgrow (Nat.le_refl _) (by simp)
  have hF := Fills.start (l := L) hown HL.out
  clear hown hgrow
  go_wp2
  go_loopw [4] (fun i wr => ∃ k : Nat, k ≤ xs.length ∧ i = .int .i64 k ∧ Fills wr w.heap.size 103 3 (.slice (some ⟨w.heap.size, 0, none⟩) xs.length xs.length) xs.length L (k * 3) ∧ Below w.heap.size w wr) (fun i _ => xs.length - (intOf i).toNat)
  case atStart => exact ⟨0, by omega, rfl, by rw [Nat.zero_mul]; exact hF, hB⟩
  case round =>
    clear hF hB
    obtain ⟨k, hk, rfl, hF, hB⟩ := hrel
    by_cases hlt : k < xs.length
    · obtain ⟨bb, off, rfl, hbs, c0, c1, c2⟩ := hc k hlt
      have e0 : wr.cell? ⟨bb, off + k * 3, none⟩ = some (.int .i64 xs[k].value_) := by rw [hB.cell (p := ⟨bb, off + k * 3, none⟩) hbs]; exact c0
      have e1 : wr.cell? ⟨bb, off + k * 3 + 1, none⟩ = some (.int .i64 xs[k].version_) := by rw [hB.cell (p := ⟨bb, off + k * 3 + 1, none⟩) hbs]; exact c1
      have e2 : wr.cell? ⟨bb, off + k * 3 + 2, none⟩ = some (.int .i64 xs[k].desc_) := by rw [hB.cell (p := ⟨bb, off + k * 3 + 2, none⟩) hbs]; exact c2
      obtain ⟨g, hg, hbg, hgs, hcells⟩ := hF.at HL.out (by rw [HL.out]; omega)
      obtain rfl := (Addr.mk.inj (Option.some.inj hg)).1
      go_wp2_with fail
      refine (toHead_c xs[k] _).mono ?_
      rintro e w2 ⟨rfl, hB1⟩
      have hB2 := hB.trans (hB1.mono (by have := hB.size; omega))
      have hF1 := hF.below hB1
      obtain ⟨g2, hg2, hbg2, hgs2, hcells2⟩ := hF1.at HL.out (by rw [HL.out]; omega)
      obtain rfl := (Addr.mk.inj (Option.some.inj hg2)).1
      obtain ⟨⟨u0, hu0⟩, hf0⟩ := hcells2 (k * 3) (by rw [HL.out]; omega)
      obtain ⟨⟨u1, hu1⟩, hf1⟩ := hcells2 (k * 3 + 1) (by rw [HL.out]; omega)
      obtain ⟨⟨u2, hu2⟩, hf2⟩ := hcells2 (k * 3 + 2) (by rw [HL.out]; omega)
      have l0 : L[k * 3]? = some (.int .i64 xs[k].value_) := hlk k hlt 0 (by omega)
      have l1 : L[k * 3 + 1]? = some (.int .i64 xs[k].version_) := hlk k hlt 1 (by omega)
      have l2 : L[k * 3 + 2]? = some (.int .i64 xs[k].desc_) := hlk k hlt 2 (by omega)
      have s0 := (hF1.store _ l0).1
      have s1 := (s0.store _ l1).1
      have s2 := (s1.store _ l2).1
      have hB3 := (((hB2.setCell (p := ⟨w.heap.size, k * 3, none⟩) (Nat.le_refl _) (.int .i64 xs[k].value_)).setCell (p := ⟨w.heap.size, k * 3 + 1, none⟩) (Nat.le_refl _) (.int .i64 xs[k].version_)).setCell (p := ⟨w.heap.size, k * 3 + 2, none⟩) (Nat.le_refl _) (.int .i64 xs[k].desc_))
      clear hc hcells hF hg hg2 hcells2 hF1 c0 c1 c2 e0 e1 e2 l0 l1 l2 hB1 hB2
      unfold Head.val
      go_wp2
      go_roundw
      case rel => exact ⟨k+1, by omega, by go_num, by rw [Nat.add_mul]; exact s2, hB3⟩
      case measure => simp [intOf]; omega
    · go_wp2
      go_ret
      exact ⟨_, rfl, hF.done (by rw [HL.out]; omega), hB⟩

theorem eqHeadS_c (v u : Value) (xs : List Head) (w : World) (h : Heads w v xs) (g : Heads w u xs) :
    Calls Try.prog 46 #[v, u] w fun e w' => e = .returned (.bool true) ∧ Below w.heap.size w w' := by
  obtain ⟨ad, cap, rfl, hl, hm, hc⟩ := h.open
  obtain ⟨ad2, cap2, rfl, hl2, hm2, hc2⟩ := g.open
  clear h g
  have hlen : xs.length ≤ 9223372036854775807 := by omega
  go_enter Try.func46, Try.ntmps46
  go_wp2
  go_loopw [5] (fun i wr => ∃ k : Nat, k ≤ xs.length ∧ i = .int .i64 k ∧ Below w.heap.size w wr) (fun i _ => xs.length - (intOf i).toNat)
  case atStart => exact ⟨0, by omega, rfl, Below.refl _ _⟩
  case round =>
    obtain ⟨k, hk, rfl, hB⟩ := hrel
    by_cases hlt : k < xs.length
    · obtain ⟨bb, off, rfl, hbs, c0, c1, c2⟩ := hc k hlt
      obtain ⟨bb2, off2, rfl, hbs2, d0, d1, d2⟩ := hc2 k hlt
      have kc : ∀ o, wr.cell? ⟨bb, o, none⟩ = w.cell? ⟨bb, o, none⟩ := fun o => hB.cell (p := ⟨bb, o, none⟩) hbs
      have kd : ∀ o, wr.cell? ⟨bb2, o, none⟩ = w.cell? ⟨bb2, o, none⟩ := fun o => hB.cell (p := ⟨bb2, o, none⟩) hbs2
      rw [← kc] at c0 c1 c2
      rw [← kd] at d0 d1 d2
      clear hc hc2 kc kd
      go_wp2
      go_still_tail 8, (by kernel_rfl)
      go_wp2_with fail
      refine (eqHead_c xs[k] _).mono ?_
      rintro e w1 ⟨rfl, hB1⟩
      go_wp2
      go_roundw
      case rel => exact ⟨k+1, by omega, by go_num, hB.drew.trans (hB1.mono (by have := hB.size; simp; omega))⟩
      case measure => simp [intOf]; omega
    · go_wp2
      go_ret
      exact ⟨rfl, hB⟩



theorem szHeadS_c (a : Option Addr) (n cap : Nat) (k : Int) (w : World) (hn : n ≤ 9223372036854775807) (h0 : 0 ≤ k) (h1 : k ≤ 1048576) :
    Calls Try.prog 24 #[.slice a n cap, .int .i64 k] w fun e w' => e = .returned (.int .i64 (if k < n then -1 else k - n)) ∧ w = w' := by
  go_enter Try.func24, Try.ntmps24
  go_wp2
  all_goals go_ret
  all_goals exact ⟨rfl, rfl⟩

structure Frame where
  desc_ : Int
  phase_ : Int
  at_ : Int

def Frame.enc (o : Frame) : List Value := [.int .i64 o.desc_, .int .i64 o.phase_, .int .i64 o.at_]

def Frame.val (o : Frame) : Value := .agg #[.int .i64 o.desc_, .int .i64 o.phase_, .int .i64 o.at_]

/-- What a walk over a slice of these is told. -/
def Frames (w : World) (v : Value) (xs : List Frame) : Prop := Flat w v xs.length 3 (xs.flatMap Frame.enc)

theorem Frames.below {w w' : World} {v : Value} {xs : List Frame} (h : Frames w v xs) (hb : Below w.heap.size w w') : Frames w' v xs := Flat.below h hb

theorem Frames.open {w : World} {v : Value} {xs : List Frame} (h : Frames w v xs) : ∃ a cap, v = .slice a xs.length cap ∧ xs.length ≤ cap ∧ cap ≤ 9223372036854775807 ∧
    ∀ k, (hk : k < xs.length) → ∃ b off, a = some ⟨b, off, none⟩ ∧ b < w.heap.size ∧ w.cell? ⟨b, off + k * 3, none⟩ = some (.int .i64 xs[k].desc_) ∧ w.cell? ⟨b, off + k * 3 + 1, none⟩ = some (.int .i64 xs[k].phase_) ∧ w.cell? ⟨b, off + k * 3 + 2, none⟩ = some (.int .i64 xs[k].at_) := by
  obtain ⟨a, cap, e, h1, h2, h3⟩ := flat_elem (f := Frame.enc) (sz := 3) (fun _ => rfl) h
  refine ⟨a, cap, e, h1, h2, fun k hk => ?_⟩
  obtain ⟨b, off, ha, hs, hc⟩ := h3 k hk
  exact ⟨b, off, ha, hs, hc 0 (by omega), hc 1 (by omega), hc 2 (by omega)⟩

theorem toFrame_c (o : Frame) (w : World) :
    Calls Try.prog 67 #[o.val] w fun e w' => e = .returned o.val ∧ Below w.heap.size w w' := by
  obtain ⟨a0, a1, a2⟩ := o
  unfold Frame.val
  dsimp only
  go_enter Try.func67, Try.ntmps67
  go_wp2
  exact bodyPost_ret (v := .agg #[.int .i64 a0, .int .i64 a1, .int .i64 a2]) (by simp [results, Try.results67, go_sem]) rfl ⟨rfl, (by repeat (first | exact Below.refl _ _ | refine below_drewN ?_ _ | refine Below.alloc ?_ (by simp; try omega) _))⟩

theorem eqFrame_c (o : Frame) (w : World) :
    Calls Try.prog 79 #[o.val, o.val] w fun e w' => e = .returned (.bool true) ∧ Below w.heap.size w w' := by
  obtain ⟨a0, a1, a2⟩ := o
  unfold Frame.val
  dsimp only
  go_enter Try.func79, Try.ntmps79
  go_wp2
  go_ret
  exact ⟨rfl, (by repeat (first | exact Below.refl _ _ | refine below_drewN ?_ _ | refine Below.alloc ?_ (by simp; try omega) _))⟩

end Go.Proofs.Ytikiaffgjpddeaa
