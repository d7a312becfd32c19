/- The laws' drawing: a cursor over bytes. -/
import Derived.Test.YtjcoakgdhiiiaaaBy5
import Derived.Test.YtjcoakgdhiiiaaaBx
import Derived.BigQuiet
namespace Go.Proofs.Ytjcoakgdhiiiaaa
set_option maxRecDepth 100000
open Go.RowKit Go.Proofs Go.Own
set_option linter.unusedVariables false
set_option linter.unusedSimpArgs false
theorem and255 (h : Int) : bits .and .i64 h 255 = h % 256 := by
  have h1 : (BitVec.ofInt 64 h).toNat = (h % (2 : Int) ^ 64).toNat := by simp [BitVec.toNat_ofInt]
  have h2 : (BitVec.ofInt 64 255).toNat = 2 ^ 8 - 1 := by decide
  show IntKind.i64.wrap ((BitVec.ofInt 64 h &&& BitVec.ofInt 64 255).toNat : Int) = _
  rw [BitVec.toNat_and, h1, h2, Nat.and_two_pow_sub_one_eq_mod, IntKind.wrap_i64]
  omega
/-- A cursor in a box of the call's own: the bytes, the place, whatever number. -/
def Cur (w : World) (b : Nat) (v : Value) (n : Nat) : Prop := ∃ (i : Nat) (h : Int), i ≤ n ∧ BoxF w b [v, .int .i64 i, .int .i64 h]
theorem Cur.grown {w w' : World} {r : Option Nat} {b n : Nat} {v : Value} (h : Cur w b v n) (hg : w.grownBy w' r) (hr : ¬ r = some b) : Cur w' b v n := by
  obtain ⟨i, x, hi, hb⟩ := h; exact ⟨i, x, hi, hb.grown hg hr⟩
theorem Cur.below {w w' : World} {b n : Nat} {v : Value} (h : Cur w b v n) (hb : Below w.heap.size w w') : Cur w' b v n := by
  obtain ⟨i, x, hi, hx⟩ := h; exact ⟨i, x, hi, hx.below hb⟩
theorem byte_close {z : Int} {P : Nat → Prop} (hp : ∀ r, P r) : ∃ r : Nat, r ≤ 255 ∧ Ending.returned (.int .i64 (bits .and .i64 z 255)) = .returned (.int .i64 (r : Int)) ∧ P r :=
  ⟨(z % 256).toNat, by omega, by rw [and255, Int.toNat_of_nonneg (by omega)], hp _⟩
set_option maxHeartbeats 8000000 in
theorem spec_l1Byte (w0 w : World) (v : Value) (xs : List Int) (hx : xs.length ≤ 1048576) (h : Bytes w0 v xs) (hin : BytesIn xs) (hB : Below w0.heap.size w0 w) (b : Nat) (hb : w0.heap.size ≤ b) (c : Cur w b v xs.length) :
    Calls Try.prog 45 #[.pointer (some ⟨b, 0, none⟩)] w fun e w' => ∃ r : Nat, r ≤ 255 ∧ e = .returned (.int .i64 (r : Int)) ∧ Cur w' b v xs.length ∧ w.grownBy w' (some b) := by
  obtain ⟨a, cap, rfl, hl, hm, ho⟩ := h.open
  clear h
  obtain ⟨i, x, hi, hbx⟩ := c
  have c0 : w.cell? ⟨b, 0, none⟩ = some (Value.slice a xs.length cap) := hbx.1.2 0 (by simp)
  have c1 : w.cell? ⟨b, 1, none⟩ = some (Value.int .i64 (i : Int)) := hbx.1.2 1 (by simp)
  have c2 : w.cell? ⟨b, 2, none⟩ = some (Value.int .i64 x) := hbx.1.2 2 (by simp)
  have f1 : w.frozen? ⟨b, 1, none⟩ = false := hbx.2 1 (by simp)
  have f2 : w.frozen? ⟨b, 2, none⟩ = false := hbx.2 2 (by simp)
  by_cases hlt : i < xs.length
  · obtain ⟨bb, off, rfl, hbb, hc⟩ := ho i hlt
    have hne : ¬ bb = b := by omega
    have hne2 : ¬ b = bb := by omega
    have e0 := (hB.cell (p := ⟨bb, off + i, none⟩) hbb).trans hc
    have hr := hin xs[i] (List.getElem_mem hlt)
    obtain ⟨y, hy⟩ : ∃ y, Hid (xs[i] = y) := ⟨_, hid rfl⟩
    rw [hy.out] at hr e0
    obtain ⟨k, rfl⟩ : ∃ k : Nat, y = k := ⟨y.toNat, by omega⟩
    have hlt' : (i : Int) < xs.length := by omega
    clear ho hc
    have HB := hid hbx
    clear hbx
    go_enter Try.func45, Try.ntmps45
    go_wp2
    go_quiet (fail)
    go_wp2
    go_quiet (fail)
    go_wp2
    go_quiet (fail)
    go_wp2
    go_ret
    exact byte_close fun _ => ⟨⟨i + 1, _, by omega, BoxF.set (BoxF.below (BoxF.set HB.out 2 (by simp) _) (by repeat (first | exact Below.refl _ _ | refine below_drewN ?_ _))) 1 (by simp) _⟩, grownBy_trans (by repeat (first | exact grownBy_setCell w _ _ | refine grownBy_drewN ?_ _)) (grownBy_setCell _ _ _)⟩
  · have hlt' : ¬ (i : Int) < xs.length := by omega
    have HB := hid hbx
    clear hbx ho
    go_enter Try.func45, Try.ntmps45
    go_wp2
    go_quiet (fail)
    go_wp2
    go_quiet (fail)
    go_wp2
    go_ret
    exact byte_close fun _ => ⟨⟨i, _, hi, BoxF.below (BoxF.set HB.out 2 (by simp) _) (by repeat (first | exact Below.refl _ _ | refine below_drewN ?_ _))⟩, by repeat (first | exact grownBy_setCell w _ _ | refine grownBy_drewN ?_ _)⟩
set_option maxHeartbeats 8000000 in
theorem spec_l1Below (w0 w : World) (v : Value) (xs : List Int) (hx : xs.length ≤ 1048576) (h : Bytes w0 v xs) (hin : BytesIn xs) (hB : Below w0.heap.size w0 w) (b : Nat) (hb : w0.heap.size ≤ b) (c : Cur w b v xs.length) (n : Nat) (hn : 1 ≤ n) (hn2 : n ≤ 256) :
    Calls Try.prog 42 #[.pointer (some ⟨b, 0, none⟩), .int .i64 (n : Int)] w fun e w' => ∃ r : Nat, r < n ∧ e = .returned (.int .i64 (r : Int)) ∧ Cur w' b v xs.length ∧ w.grownBy w' (some b) := by
  have n1 : (1 : Int) ≤ (n : Int) := by omega
  have n2 : (n : Int) ≤ 256 := by omega
  have hC := hid (spec_l1Byte w0 w v xs hx h hin hB b hb c)
  clear h hin hB c hx
  go_enter Try.func42, Try.ntmps42
  go_wp2_with fail
  refine hC.out.mono ?_
  rintro e w2 ⟨r, hr, rfl, c2, g2⟩
  have hr2 : (r : Int) ≤ 255 := by omega
  have hm : (r : Int).tmod (n : Int) = ((r % n : Nat) : Int) := by rw [Int.tmod_eq_emod_of_nonneg (by omega)]; rfl
  have hm1 : r % n < n := Nat.mod_lt _ (by omega)
  have hm2 : ((r % n : Nat) : Int) ≤ 255 := by omega
  go_wp2
  go_ret
  exact ⟨r % n, hm1, ret_int (by first | omega | rfl | (rw [hm]; done)), c2, g2⟩
theorem spec_l1Once (w0 w : World) (v : Value) (xs : List Int) (hx : xs.length ≤ 1048576) (h : Bytes w0 v xs) (hin : BytesIn xs) (hB : Below w0.heap.size w0 w) (b : Nat) (hb : w0.heap.size ≤ b) (c : Cur w b v xs.length) (n : Nat) (hn : 1 ≤ n) (hn2 : n ≤ 256) :
    Calls Try.prog 32 #[.pointer (some ⟨b, 0, none⟩), .int .i64 (n : Int)] w fun e w' => ∃ B : Bool, e = .returned (.bool B) ∧ Cur w' b v xs.length ∧ w.grownBy w' (some b) := by
  have hC := hid (spec_l1Below w0 w v xs hx h hin hB b hb c n hn hn2)
  clear h hin hB c hx
  go_enter Try.func32, Try.ntmps32
  go_wp2_with fail
  refine hC.out.mono ?_
  rintro e w2 ⟨r, hr, rfl, c2, g2⟩
  go_wp2
  go_ret
  exact ⟨_, rfl, c2, g2⟩
theorem spec_l1PickInt (w0 w : World) (v : Value) (xs : List Int) (hx : xs.length ≤ 1048576) (h : Bytes w0 v xs) (hin : BytesIn xs) (hB : Below w0.heap.size w0 w) (b : Nat) (hb : w0.heap.size ≤ b) (c : Cur w b v xs.length)
    (u : Value) (ys : List Int) (hu : Ints w u ys) (hn : 1 ≤ ys.length) (hn2 : ys.length ≤ 256) (g : Nat) (hg : ∃ o cap, u = .slice (some ⟨g, o, none⟩) ys.length cap) (hgb : ¬ g = b) :
    Calls Try.prog 33 #[.pointer (some ⟨b, 0, none⟩), u] w fun e w' => ∃ y : Int, y ∈ ys ∧ e = .returned (.int .i64 y) ∧ Cur w' b v xs.length ∧ w.grownBy w' (some b) := by
  obtain ⟨o, cap, rfl⟩ := hg
  obtain ⟨a, cap', e, hl, hm, hc⟩ := hu.open
  cases e
  have hC := hid (spec_l1Below w0 w v xs hx h hin hB b hb c ys.length hn hn2)
  clear h hin hB c hx
  have Hc := hid hc
  clear hc
  go_enter Try.func33, Try.ntmps33
  go_wp2_with fail
  refine hC.out.mono ?_
  rintro e w2 ⟨r, hr, rfl, c2, g2⟩
  obtain ⟨bb, off, hbo, hbs, c0⟩ := Hc.out r hr
  obtain ⟨rfl, rfl⟩ : g = bb ∧ o = off := by have := Option.some.inj hbo; exact ⟨(Addr.mk.inj this).1, (Addr.mk.inj this).2.1⟩
  have e0 := World.grownBy.cell g2 c0 (by intro e; exact hgb (Option.some.inj e))
  have hr' : (r : Int) < (ys.length : Int) := by omega
  go_wp2
  go_ret
  exact ⟨ys[r], List.getElem_mem hr, rfl, c2, g2⟩
set_option maxHeartbeats 8000000 in
theorem spec_l1New (w : World) (v : Value) (xs : List Int) (hx : xs.length ≤ 1048576) (h : Bytes w v xs) (hin : BytesIn xs) :
    Calls Try.prog 30 #[v] w fun e w' => e = .returned (.pointer (some ⟨w.heap.size, 0, none⟩)) ∧ Cur w' w.heap.size v xs.length ∧ Below w.heap.size w w' := by
  obtain ⟨a, cap, rfl, hl, hm, ho⟩ := h.open
  clear h
  have hlen : xs.length ≤ 9223372036854775807 := by omega
  have HO := hid ho
  have HI := hid hin
  clear ho hin
  go_enter Try.func30, Try.ntmps30
  go_wp2
  go_loop [3, 4] (fun t i => ∃ (k : Nat) (x : Int), k ≤ xs.length ∧ i = .int .i64 k ∧ t = .int .i64 x) (fun _ i => xs.length - (intOf i).toNat)
  case atStart => exact ⟨0, _, by omega, rfl, rfl⟩
  case round =>
    obtain ⟨k, x, hk, rfl, rfl⟩ := hrel
    have hfin : ∀ y : Int, Cur (w.alloc (.cells #[Value.slice a xs.length cap, .int .i64 0, .int .i64 y] 65)) w.heap.size (Value.slice a xs.length cap) xs.length := fun y => ⟨0, y, Nat.zero_le _, BoxF.alloc _ _ _⟩
    by_cases hlt : k < xs.length
    · by_cases h4 : (k : Int) < 4000
      · obtain ⟨bb, off, rfl, hbb, hc⟩ := HO.out k hlt
        have hr := HI.out xs[k] (List.getElem_mem hlt)
        obtain ⟨y, hy⟩ : ∃ y, Hid (xs[k] = y) := ⟨_, hid rfl⟩
        rw [hy.out] at hr hc
        obtain ⟨m, rfl⟩ : ∃ m : Nat, y = m := ⟨y.toNat, by omega⟩
        have hr1 : (m : Int) ≤ 255 := hr.2
        have hlt' : (k : Int) < xs.length := by omega
        go_wp2
        go_round
        case rel => exact ⟨k + 1, _, by omega, by go_num, rfl⟩
        case measure => simp [intOf]; omega
      · have hlt' : (k : Int) < xs.length := by omega
        go_wp2
        go_ret
        exact ⟨rfl, hfin _, (Below.refl _ _).alloc (Nat.le_refl _) _⟩
    · have hlt' : ¬ (k : Int) < xs.length := by omega
      go_wp2
      go_ret
      exact ⟨rfl, hfin _, (Below.refl _ _).alloc (Nat.le_refl _) _⟩
end Go.Proofs.Ytjcoakgdhiiiaaa
