/- Small functions that every chapter's model goes by. -/
import Derived.Test.YtbbdchlabdilcabGreatBase
import Derived.Test.YtbbdchlabdilcabGreatProg
namespace Go.Proofs.YtbbdchlabdilcabGreat
set_option maxRecDepth 100000
open Go.RowKit Go.Proofs Go.Own

/-- A number that an int can be. -/
def InI (h : Int) : Prop := -9223372036854775808 ≤ h ∧ h ≤ 9223372036854775807
theorem inI_of_wf {h : Int} (hw : (Lit.int .i64 h).wf = true) : InI h := by
  have h1 : IntKind.min .i64 = -9223372036854775808 := by decide
  have h2 : IntKind.max .i64 = 9223372036854775807 := by decide
  simp only [Lit.wf, Bool.and_eq_true, decide_eq_true_eq, h1, h2] at hw
  exact hw
def isVal (x : Int) : Bool := inB x (-1000000000) 1000000000
theorem isVal_iff {x : Int} (h : isVal x = true) : -1000000000 ≤ x ∧ x ≤ 1000000000 := by simpa [isVal, inB] using h
def hasFrom (xs : List Int) (x : Int) (k : Nat) : Bool := decide (x ∈ xs.drop k)
theorem hasFrom_step (xs : List Int) (x : Int) (k : Nat) (h : k < xs.length) : hasFrom xs x k = ((xs[k] == x) || hasFrom xs x (k+1)) := by
  simp only [hasFrom]
  rw [List.drop_eq_getElem_cons h]
  rw [Bool.eq_iff_iff]
  simp only [List.mem_cons, decide_eq_true_eq, Bool.or_eq_true, beq_iff_eq]
  constructor
  · rintro (e | e)
    · exact .inl e.symm
    · exact .inr e
  · rintro (e | e)
    · exact .inl e.symm
    · exact .inr e
theorem hasFrom_end (xs : List Int) (x : Int) (k : Nat) (h : ¬ k < xs.length) : hasFrom xs x k = false := by
  simp [hasFrom, List.drop_eq_nil_of_le (Nat.le_of_not_lt h)]
end Go.Proofs.YtbbdchlabdilcabGreat
namespace Go.Proofs.YtbbdchlabdilcabGreat
open Go.RowKit Go.Proofs Go.Own
set_option maxRecDepth 100000

structure Entry where
  object_ : Int
  version_ : Int
  old_ : Int
  new_ : Int
  write_ : Bool

def Entry.enc (o : Entry) : List Value := [.int .i64 o.object_, .int .i64 o.version_, .int .i64 o.old_, .int .i64 o.new_, .bool o.write_]

def Entry.val (o : Entry) : Value := .agg #[.int .i64 o.object_, .int .i64 o.version_, .int .i64 o.old_, .int .i64 o.new_, .bool o.write_]

/-- What a walk over a slice of these is told. -/
def Entrys (w : World) (v : Value) (xs : List Entry) : Prop := Flat w v xs.length 5 (xs.flatMap Entry.enc)

theorem Entrys.below {w w' : World} {v : Value} {xs : List Entry} (h : Entrys w v xs) (hb : Below w.heap.size w w') : Entrys w' v xs := Flat.below h hb

theorem Entrys.open {w : World} {v : Value} {xs : List Entry} (h : Entrys w v xs) : ∃ a cap, v = .slice a xs.length cap ∧ xs.length ≤ cap ∧ cap ≤ 9223372036854775807 ∧
    ∀ k, (hk : k < xs.length) → ∃ b off, a = some ⟨b, off, none⟩ ∧ b < w.heap.size ∧ w.cell? ⟨b, off + k * 5, none⟩ = some (.int .i64 xs[k].object_) ∧ w.cell? ⟨b, off + k * 5 + 1, none⟩ = some (.int .i64 xs[k].version_) ∧ w.cell? ⟨b, off + k * 5 + 2, none⟩ = some (.int .i64 xs[k].old_) ∧ w.cell? ⟨b, off + k * 5 + 3, none⟩ = some (.int .i64 xs[k].new_) ∧ w.cell? ⟨b, off + k * 5 + 4, none⟩ = some (.bool xs[k].write_) := by
  obtain ⟨a, cap, e, h1, h2, h3⟩ := flat_elem (f := Entry.enc) (sz := 5) (fun _ => rfl) h
  refine ⟨a, cap, e, h1, h2, fun k hk => ?_⟩
  obtain ⟨b, off, ha, hs, hc⟩ := h3 k hk
  exact ⟨b, off, ha, hs, hc 0 (by omega), hc 1 (by omega), hc 2 (by omega), hc 3 (by omega), hc 4 (by omega)⟩

theorem toEntry_c (o : Entry) (w : World) :
    Calls Tryz.prog 103 #[o.val] w fun e w' => e = .returned o.val ∧ Below w.heap.size w w' := by
  obtain ⟨a0, a1, a2, a3, a4⟩ := o
  unfold Entry.val
  dsimp only
  go_enter Tryz.func103, Tryz.ntmps103
  go_wp2
  exact bodyPost_ret (v := .agg #[.int .i64 a0, .int .i64 a1, .int .i64 a2, .int .i64 a3, .bool a4]) (by simp [results, Tryz.results103, go_sem]) rfl ⟨rfl, (by repeat (first | exact Below.refl _ _ | refine below_drewN ?_ _ | refine Below.alloc ?_ (by simp; try omega) _))⟩

theorem eqEntry_c (o : Entry) (w : World) :
    Calls Tryz.prog 122 #[o.val, o.val] w fun e w' => e = .returned (.bool true) ∧ Below w.heap.size w w' := by
  obtain ⟨a0, a1, a2, a3, a4⟩ := o
  unfold Entry.val
  dsimp only
  go_enter Tryz.func122, Tryz.ntmps122
  go_wp2
  go_ret
  exact ⟨rfl, (by repeat (first | exact Below.refl _ _ | refine below_drewN ?_ _ | refine Below.alloc ?_ (by simp; try omega) _))⟩

theorem infoEntry : (Tryz.prog.info? 121).map (fun i => (i.zero, i.size, i.bytes)) = some (some (.agg #[.int .i64 0, .int .i64 0, .int .i64 0, .int .i64 0, .bool false]), 5, 40) := by kernel_rfl

theorem toEntryS_c (v : Value) (xs : List Entry) (w : World) (hx : xs.length ≤ 1048576) (h : Entrys w v xs) :
    Calls Tryz.prog 79 #[v] w fun e w' => ∃ v', e = .returned v' ∧ w'.ownsRow w.heap.size 121 5 v' xs.length (xs.flatMap Entry.enc) ∧ Below w.heap.size w w' := by
  obtain ⟨ad, cap, rfl, hl, hm, hc⟩ := h.open
  clear h
  have hlen : xs.length ≤ 9223372036854775807 := by omega
  obtain ⟨i0, hi, hz0, hz1, hz2⟩ := info_parts infoEntry
  have hL : (xs.flatMap Entry.enc).length = xs.length * 5 := flatMap_len _ 5 (fun _ => rfl) xs
  have hlk : ∀ k, (hk : k < xs.length) → ∀ j, j < 5 → (xs.flatMap Entry.enc)[k * 5 + j]? = (Entry.enc xs[k])[j]? := fun k hk j hj => flatMap_get Entry.enc 5 (fun _ => rfl) xs k hk j hj
  generalize xs.flatMap Entry.enc = L at *
  have HL := hid hL
  clear hL
  go_enter Tryz.func79, Tryz.ntmps79
  go_wp2_with (at_make; refine wpList_make_full _ rfl _ _ 79 rfl (w.heap.size) 121 i0 (.agg #[.int .i64 0, .int .i64 0, .int .i64 0, .int .i64 0, .bool false]) 5 Tryz.underlying79 hi hz0 hz1 _ _ _ _ xs.length rfl rfl rfl rfl (by rw [hz2]; omega) (by unfold maxLen; omega) (Nat.le_refl _) ?_)
  intro w1 hown hgrow
  have hB := (Below.refl w.heap.size w).grown hgrow (Nat.le_refl _) (by simp)
  have hF := Fills.start (l := L) hown HL.out
  clear hown hgrow
  go_wp2
  go_loopw [4] (fun i wr => ∃ k : Nat, k ≤ xs.length ∧ i = .int .i64 k ∧ Fills wr w.heap.size 121 5 (.slice (some ⟨w.heap.size, 0, none⟩) xs.length xs.length) xs.length L (k * 5) ∧ Below w.heap.size w wr) (fun i _ => xs.length - (intOf i).toNat)
  case atStart => exact ⟨0, by omega, rfl, by rw [Nat.zero_mul]; exact hF, hB⟩
  case round =>
    clear hF hB
    obtain ⟨k, hk, rfl, hF, hB⟩ := hrel
    by_cases hlt : k < xs.length
    · obtain ⟨bb, off, rfl, hbs, c0, c1, c2, c3, c4⟩ := hc k hlt
      have e0 : wr.cell? ⟨bb, off + k * 5, none⟩ = some (.int .i64 xs[k].object_) := by rw [hB.cell (p := ⟨bb, off + k * 5, none⟩) hbs]; exact c0
      have e1 : wr.cell? ⟨bb, off + k * 5 + 1, none⟩ = some (.int .i64 xs[k].version_) := by rw [hB.cell (p := ⟨bb, off + k * 5 + 1, none⟩) hbs]; exact c1
      have e2 : wr.cell? ⟨bb, off + k * 5 + 2, none⟩ = some (.int .i64 xs[k].old_) := by rw [hB.cell (p := ⟨bb, off + k * 5 + 2, none⟩) hbs]; exact c2
      have e3 : wr.cell? ⟨bb, off + k * 5 + 3, none⟩ = some (.int .i64 xs[k].new_) := by rw [hB.cell (p := ⟨bb, off + k * 5 + 3, none⟩) hbs]; exact c3
      have e4 : wr.cell? ⟨bb, off + k * 5 + 4, none⟩ = some (.bool xs[k].write_) := by rw [hB.cell (p := ⟨bb, off + k * 5 + 4, none⟩) hbs]; exact c4
      obtain ⟨g, hg, hbg, hgs, hcells⟩ := hF.at HL.out (by rw [HL.out]; omega)
      obtain rfl := (Addr.mk.inj (Option.some.inj hg)).1
      go_wp2_with fail
      refine (toEntry_c xs[k] _).mono ?_
      rintro e w2 ⟨rfl, hB1⟩
      have hB2 := hB.trans (hB1.mono (by have := hB.size; omega))
      have hF1 := hF.below hB1
      obtain ⟨g2, hg2, hbg2, hgs2, hcells2⟩ := hF1.at HL.out (by rw [HL.out]; omega)
      obtain rfl := (Addr.mk.inj (Option.some.inj hg2)).1
      obtain ⟨⟨u0, hu0⟩, hf0⟩ := hcells2 (k * 5) (by rw [HL.out]; omega)
      obtain ⟨⟨u1, hu1⟩, hf1⟩ := hcells2 (k * 5 + 1) (by rw [HL.out]; omega)
      obtain ⟨⟨u2, hu2⟩, hf2⟩ := hcells2 (k * 5 + 2) (by rw [HL.out]; omega)
      obtain ⟨⟨u3, hu3⟩, hf3⟩ := hcells2 (k * 5 + 3) (by rw [HL.out]; omega)
      obtain ⟨⟨u4, hu4⟩, hf4⟩ := hcells2 (k * 5 + 4) (by rw [HL.out]; omega)
      have l0 : L[k * 5]? = some (.int .i64 xs[k].object_) := hlk k hlt 0 (by omega)
      have l1 : L[k * 5 + 1]? = some (.int .i64 xs[k].version_) := hlk k hlt 1 (by omega)
      have l2 : L[k * 5 + 2]? = some (.int .i64 xs[k].old_) := hlk k hlt 2 (by omega)
      have l3 : L[k * 5 + 3]? = some (.int .i64 xs[k].new_) := hlk k hlt 3 (by omega)
      have l4 : L[k * 5 + 4]? = some (.bool xs[k].write_) := hlk k hlt 4 (by omega)
      have s0 := (hF1.store _ l0).1
      have s1 := (s0.store _ l1).1
      have s2 := (s1.store _ l2).1
      have s3 := (s2.store _ l3).1
      have s4 := (s3.store _ l4).1
      have hB3 := (((((hB2.setCell (p := ⟨w.heap.size, k * 5, none⟩) (Nat.le_refl _) (.int .i64 xs[k].object_)).setCell (p := ⟨w.heap.size, k * 5 + 1, none⟩) (Nat.le_refl _) (.int .i64 xs[k].version_)).setCell (p := ⟨w.heap.size, k * 5 + 2, none⟩) (Nat.le_refl _) (.int .i64 xs[k].old_)).setCell (p := ⟨w.heap.size, k * 5 + 3, none⟩) (Nat.le_refl _) (.int .i64 xs[k].new_)).setCell (p := ⟨w.heap.size, k * 5 + 4, none⟩) (Nat.le_refl _) (.bool xs[k].write_))
      clear hc hcells hF hg hg2 hcells2 hF1 c0 c1 c2 c3 c4 e0 e1 e2 e3 e4 l0 l1 l2 l3 l4 hB1 hB2
      unfold Entry.val
      go_wp2
      go_roundw
      case rel => exact ⟨k+1, by omega, by go_num, by rw [Nat.add_mul]; exact s4, hB3⟩
      case measure => simp [intOf]; omega
    · go_wp2
      go_ret
      exact ⟨_, rfl, hF.done (by rw [HL.out]; omega), hB⟩

theorem eqEntryS_c (v u : Value) (xs : List Entry) (w : World) (h : Entrys w v xs) (g : Entrys w u xs) :
    Calls Tryz.prog 96 #[v, u] w fun e w' => e = .returned (.bool true) ∧ Below w.heap.size w w' := by
  obtain ⟨ad, cap, rfl, hl, hm, hc⟩ := h.open
  obtain ⟨ad2, cap2, rfl, hl2, hm2, hc2⟩ := g.open
  clear h g
  have hlen : xs.length ≤ 9223372036854775807 := by omega
  go_enter Tryz.func96, Tryz.ntmps96
  go_wp2
  go_loopw [5] (fun i wr => ∃ k : Nat, k ≤ xs.length ∧ i = .int .i64 k ∧ Below w.heap.size w wr) (fun i _ => xs.length - (intOf i).toNat)
  case atStart => exact ⟨0, by omega, rfl, Below.refl _ _⟩
  case round =>
    obtain ⟨k, hk, rfl, hB⟩ := hrel
    by_cases hlt : k < xs.length
    · obtain ⟨bb, off, rfl, hbs, c0, c1, c2, c3, c4⟩ := hc k hlt
      obtain ⟨bb2, off2, rfl, hbs2, d0, d1, d2, d3, d4⟩ := hc2 k hlt
      have kc : ∀ o, wr.cell? ⟨bb, o, none⟩ = w.cell? ⟨bb, o, none⟩ := fun o => hB.cell (p := ⟨bb, o, none⟩) hbs
      have kd : ∀ o, wr.cell? ⟨bb2, o, none⟩ = w.cell? ⟨bb2, o, none⟩ := fun o => hB.cell (p := ⟨bb2, o, none⟩) hbs2
      rw [← kc] at c0 c1 c2 c3 c4
      rw [← kd] at d0 d1 d2 d3 d4
      clear hc hc2 kc kd
      go_wp2
      go_still_tail 8, (by kernel_rfl)
      go_wp2_with fail
      refine (eqEntry_c xs[k] _).mono ?_
      rintro e w1 ⟨rfl, hB1⟩
      go_wp2
      go_roundw
      case rel => exact ⟨k+1, by omega, by go_num, hB.drew.trans (hB1.mono (by have := hB.size; simp; omega))⟩
      case measure => simp [intOf]; omega
    · go_wp2
      go_ret
      exact ⟨rfl, hB⟩

def markEntry : Nat → Int → Value := fun j x => if j % 5 = 4 then .bool (x % 3 == 0) else .int .i64 x

theorem markEntryS_c (base e : Nat) (v : Value) (n : Nat) (cs : List Value) (k : Int) (w : World) (hn : n ≤ 1099511627776) (h0 : 0 ≤ k) (h1 : k ≤ 1125899906842624) (h : w.ownsRow base e 5 v n cs) :
    Calls Tryz.prog 60 #[v, .int .i64 k] w fun r w' => r = .returned (.int .i64 (k + 5 * n)) ∧ w'.ownsRow base e 5 v n (markV markEntry (n * 5) k) ∧ w.grownBy w' v.ownBlock := by
  obtain ⟨a, cap, rfl, hl, hm⟩ := owns_form h
  have hF := Fills.start (l := markV markEntry (n * 5) k) h (by rw [markV_length])
  clear h
  go_enter Tryz.func60, Tryz.ntmps60
  go_wp2
  go_loopw [1, 5] (fun kk i wr => ∃ j : Nat, j ≤ n ∧ i = .int .i64 j ∧ kk = .int .i64 (k + 5 * j) ∧ Fills wr base e 5 (.slice a n cap) n (markV markEntry (n * 5) k) (j * 5) ∧ w.grownBy wr (Value.slice a n cap).ownBlock) (fun _ i _ => n - (intOf i).toNat)
  case atStart => exact ⟨0, by omega, rfl, by simp, by rw [Nat.zero_mul]; exact hF, World.grownBy.refl _ _⟩
  case round =>
    clear hF
    obtain ⟨j, hj, rfl, rfl, hF, hG⟩ := hrel
    by_cases hlt : j < n
    · have hm4 : (markV markEntry (n * 5) k).length = (n * 5) := markV_length _ _ _
      obtain ⟨g, rfl, hbg, hgs, hcells⟩ := hF.at (by rw [hm4]) (by omega)
      obtain ⟨⟨u0, hu0⟩, hf0⟩ := hcells (j * 5) (by omega)
      obtain ⟨⟨u1, hu1⟩, hf1⟩ := hcells (j * 5 + 1) (by omega)
      obtain ⟨⟨u2, hu2⟩, hf2⟩ := hcells (j * 5 + 2) (by omega)
      obtain ⟨⟨u3, hu3⟩, hf3⟩ := hcells (j * 5 + 3) (by omega)
      obtain ⟨⟨u4, hu4⟩, hf4⟩ := hcells (j * 5 + 4) (by omega)
      have s0 := hF.store (.int .i64 (k + 5 * j)) (by rw [markV_get _ _ _ _ (by omega)]; unfold markEntry; rw [if_neg (by omega), show k + ((j * 5 : Nat) : Int) = k + 5 * j from by omega])
      have s1 := s0.1.store (.int .i64 (k + 5 * j + 1)) (by rw [markV_get _ _ _ _ (by omega)]; unfold markEntry; rw [if_neg (by omega), show k + ((j * 5 + 1 : Nat) : Int) = k + 5 * j + 1 from by omega])
      have s2 := s1.1.store (.int .i64 (k + 5 * j + 1 + 1)) (by rw [markV_get _ _ _ _ (by omega)]; unfold markEntry; rw [if_neg (by omega), show k + ((j * 5 + 2 : Nat) : Int) = k + 5 * j + 1 + 1 from by omega])
      have s3 := s2.1.store (.int .i64 (k + 5 * j + 1 + 1 + 1)) (by rw [markV_get _ _ _ _ (by omega)]; unfold markEntry; rw [if_neg (by omega), show k + ((j * 5 + 3 : Nat) : Int) = k + 5 * j + 1 + 1 + 1 from by omega])
      have s4 := s3.1.store (.bool ((k + 5 * j + 1 + 1 + 1 + 1) % 3 == 0)) (by rw [markV_get _ _ _ _ (by omega)]; unfold markEntry; rw [if_pos (by omega), show k + ((j * 5 + 4 : Nat) : Int) = k + 5 * j + 1 + 1 + 1 + 1 from by omega])
      have hG4 := grownBy_trans hG (grownBy_trans (grownBy_trans (grownBy_trans (grownBy_trans s0.2 s1.2) s2.2) s3.2) s4.2)
      have hF4 := s4.1
      clear s0 s1 s2 s3 s4 hcells hm4 hF hG
      go_wp2
      go_roundw
      case rel => exact ⟨j+1, by omega, by go_num, by go_num, by rw [Nat.add_mul]; exact hF4, hG4⟩
      case measure => simp [intOf]; omega
    · go_wp2
      go_ret
      exact ⟨ret_int (by omega), hF.done (by rw [markV_length]; omega), hG⟩


theorem szEntryS_c (a : Option Addr) (n cap : Nat) (k : Int) (w : World) (hn : n ≤ 9223372036854775807) (h0 : 0 ≤ k) (h1 : k ≤ 1048576) :
    Calls Tryz.prog 64 #[.slice a n cap, .int .i64 k] w fun e w' => e = .returned (.int .i64 (if k < n then -1 else k - n)) ∧ w = w' := by
  go_enter Tryz.func64, Tryz.ntmps64
  go_wp2
  all_goals go_ret
  all_goals exact ⟨rfl, rfl⟩

end Go.Proofs.YtbbdchlabdilcabGreat
