/- Chapter 5's model: WriteSchedule. -/
import Derived.Test.YtjcoakgdhiiiaaaDoorS5b
import Derived.Test.YtjcoakgdhiiiaaaDoorTld
namespace Go.Proofs.YtjcoakgdhiiiaaaDoor
set_option maxRecDepth 100000
open Go.RowKit Go.Proofs Go.Own
set_option linter.unusedVariables false
set_option linter.unusedSimpArgs false
theorem sz32 : ByteArray.size ⟨#[32]⟩ = 1 := rfl
theorem sz42 : ByteArray.size ⟨#[42]⟩ = 1 := rfl
def blankB : ByteArray := ⟨#[32]⟩
def starB : ByteArray := ⟨#[42]⟩
def aheadB (acc : ByteArray) (later : Bool) : ByteArray := if later = true then acc ++ blankB else acc
def behindB (acc : ByteArray) (m : Int) : ByteArray := if 1 < m then (acc ++ starB) ++ digS m.toNat else acc
def textFrom : List Run → ByteArray → Bool → ByteArray
  | [], acc, _ => acc
  | r :: rs, acc, later => textFrom rs (behindB (aheadB acc later ++ digS r.thread_.toNat) r.many_) true
def textOf (xs : List Run) : ByteArray := if schedOk xs = true then textFrom xs ByteArray.empty false else ByteArray.empty
theorem textFrom_step {xs : List Run} {k : Nat} (h : k < xs.length) (acc : ByteArray) (b : Bool) : textFrom (xs.drop k) acc b = textFrom (xs.drop (k+1)) (behindB (aheadB acc b ++ digS xs[k].thread_.toNat) xs[k].many_) true := by
  rw [List.drop_eq_getElem_cons h]; rfl
theorem runOk_all {r : Run} (h : runOk r = true) : (0 ≤ r.thread_ ∧ r.thread_ ≤ 3) ∧ 1 ≤ r.many_ ∧ r.many_ ≤ 500 := by
  simp [runOk, inB] at h; omega
set_option maxHeartbeats 8000000 in
theorem spec_WriteSchedule (v : Value) (xs : List Run) (w : World) (h : Runs w v xs) (hx : xs.length ≤ 1048576) :
    Calls Tryd.prog 6 #[v] w fun e w' => e = .returned (.tuple #[.string (textOf xs), .bool (schedOk xs)]) ∧ Below w.heap.size w w' := by
  have h0 := h
  obtain ⟨ad, cap, rfl, hl, hm, hc⟩ := h.open
  clear h
  have hlen : xs.length ≤ 9223372036854775807 := by omega
  have HC := hid hc
  clear hc
  cases hok : schedOk xs with
  | false =>
    have hT := hid (show textOf xs = ByteArray.empty by unfold textOf; rw [hok]; rfl)
    go_enter Tryd.func6, Tryd.ntmps6
    go_wp2_with fail
    refine (spec_ScheduleOk _ xs _ h0 hx).mono ?_
    rintro e w' ⟨rfl, rfl⟩
    go_wp2
    go_ret2
    exact ⟨by rw [hT.out]; rfl, Below.refl _ _⟩
  | true =>
    have hT := hid (show textOf xs = textFrom xs ByteArray.empty false by unfold textOf; rw [hok]; rfl)
    have hl60 : xs.length ≤ 60 := by unfold schedOk at hok; simp at hok; exact hok.1
    have hget := hid (okFrom_get xs 0 (by unfold schedOk at hok; simp at hok; exact hok.2))
    go_enter Tryd.func6, Tryd.ntmps6
    go_wp2_with fail
    refine (spec_ScheduleOk _ xs _ h0 hx).mono ?_
    rintro e w' ⟨rfl, rfl⟩
    go_wp2
    go_loopw [4, 5] (fun s i wr => ∃ (k : Nat) (acc : ByteArray), k ≤ xs.length ∧ i = .int .i64 k ∧ s = .string acc ∧ acc.size ≤ 20 * k ∧ Same (textFrom (xs.drop k) acc (decide (0 < k))) (textFrom xs ByteArray.empty false) ∧ Below w.heap.size w wr) (fun _ i _ => xs.length - (intOf i).toNat)
    case atStart => exact ⟨0, ByteArray.empty, by omega, rfl, rfl, by simp, .rfl, Below.refl _ _⟩
    case round =>
      obtain ⟨k, acc, hk, rfl, rfl, hsz, hS, hB⟩ := hrel
      by_cases hlt : k < xs.length
      · obtain ⟨⟨t1, t2⟩, m1, m2⟩ := runOk_all (hget.out k hlt)
        obtain ⟨bb, off, rfl, hbs, c0, c1⟩ := HC.out k hlt
        obtain ⟨T, hT2⟩ := Int.eq_ofNat_of_zero_le t1
        obtain ⟨M, hM⟩ := Int.eq_ofNat_of_zero_le (by omega : 0 ≤ xs[k].many_)
        have e0 := (hB.cell (p := ⟨bb, off + k * 2, none⟩) hbs).trans c0
        have e1 := (hB.cell (p := ⟨bb, off + k * 2 + 1, none⟩) hbs).trans c1
        have hst := hS.out
        rw [textFrom_step hlt, hT2, hM] at hst
        have Hst := hid hst
        rw [hT2] at e0
        rw [hM] at e1
        have z1 := digS_sizeB T (by omega)
        have z2 := digS_sizeB M (by omega)
        have y1 : ¬ (9223372036854775807 < acc.size + 1) := by omega
        have c1M := c1
        rw [hM] at c1M
        clear c0 c1 HC hst hget hS
        by_cases k0 : (0 : Int) < (k : Int)
        · by_cases mm : (1 : Int) < (M : Int)
          · have y2 : ¬ (9223372036854775807 < acc.size + 1 + (digS T).size) := by omega
            have y3 : ¬ (9223372036854775807 < acc.size + 1 + (digS T).size + 1) := by omega
            have y4 : ¬ (9223372036854775807 < acc.size + 1 + (digS T).size + 1 + (digS M).size) := by omega
            go_wp2_with fail
            refine (told T _ _ rfl (by omega)).mono ?_
            rintro e w2 ⟨rfl, b2⟩
            have hB2 := hB.trans (b2.mono hB.size)
            have e2 := (hB2.cell (p := ⟨bb, off + k * 2 + 1, none⟩) hbs).trans c1M
            go_wp2_with fail
            refine (told M _ _ rfl (by omega)).mono ?_
            rintro e w3 ⟨rfl, b3⟩
            have hB3 := hB2.trans (b3.mono hB2.size)
            go_wp2
            go_roundw
            case rel =>
              have e5 : behindB (aheadB acc true ++ digS T) M = ((((acc ++ ⟨#[32]⟩) ++ digS T) ++ ⟨#[42]⟩) ++ digS M) := by unfold behindB aheadB; rw [if_pos (show (1 : Int) < (M : Int) by omega)]; rfl
              have e6 := Hst.out
              simp only [Int.toNat_natCast] at e6
              rw [show decide (0 < k) = true from decide_eq_true (by omega), e5] at e6
              exact ⟨k+1, _, by omega, by go_num, rfl, by simp [ByteArray.size_append, sz32, sz42]; omega, Same.mk (by rw [show decide (0 < k + 1) = true from decide_eq_true (by omega)]; exact e6), hB3⟩
            case measure => simp [intOf]; omega
          · have y2 : ¬ (9223372036854775807 < acc.size + 1 + (digS T).size) := by omega
            go_wp2_with fail
            refine (told T _ _ rfl (by omega)).mono ?_
            rintro e w2 ⟨rfl, b2⟩
            have hB2 := hB.trans (b2.mono hB.size)
            have e2 := (hB2.cell (p := ⟨bb, off + k * 2 + 1, none⟩) hbs).trans c1M
            go_wp2
            go_roundw
            case rel =>
              have e5 : behindB (aheadB acc true ++ digS T) M = ((acc ++ ⟨#[32]⟩) ++ digS T) := by unfold behindB aheadB; rw [if_neg (show ¬ (1 : Int) < (M : Int) by omega)]; rfl
              have e6 := Hst.out
              simp only [Int.toNat_natCast] at e6
              rw [show decide (0 < k) = true from decide_eq_true (by omega), e5] at e6
              exact ⟨k+1, _, by omega, by go_num, rfl, by simp [ByteArray.size_append, sz32, sz42]; omega, Same.mk (by rw [show decide (0 < k + 1) = true from decide_eq_true (by omega)]; exact e6), hB2⟩
            case measure => simp [intOf]; omega
        · by_cases mm : (1 : Int) < (M : Int)
          · have y2 : ¬ (9223372036854775807 < acc.size + (digS T).size) := by omega
            have y3 : ¬ (9223372036854775807 < acc.size + (digS T).size + 1) := by omega
            have y4 : ¬ (9223372036854775807 < acc.size + (digS T).size + 1 + (digS M).size) := by omega
            go_wp2_with fail
            refine (told T _ _ rfl (by omega)).mono ?_
            rintro e w2 ⟨rfl, b2⟩
            have hB2 := hB.trans (b2.mono hB.size)
            have e2 := (hB2.cell (p := ⟨bb, off + k * 2 + 1, none⟩) hbs).trans c1M
            go_wp2_with fail
            refine (told M _ _ rfl (by omega)).mono ?_
            rintro e w3 ⟨rfl, b3⟩
            have hB3 := hB2.trans (b3.mono hB2.size)
            go_wp2
            go_roundw
            case rel =>
              have e5 : behindB (aheadB acc false ++ digS T) M = ((((acc) ++ digS T) ++ ⟨#[42]⟩) ++ digS M) := by unfold behindB aheadB; rw [if_pos (show (1 : Int) < (M : Int) by omega)]; rfl
              have e6 := Hst.out
              simp only [Int.toNat_natCast] at e6
              rw [show decide (0 < k) = false from decide_eq_false (by omega), e5] at e6
              exact ⟨k+1, _, by omega, by go_num, rfl, by simp [ByteArray.size_append, sz32, sz42]; omega, Same.mk (by rw [show decide (0 < k + 1) = true from decide_eq_true (by omega)]; exact e6), hB3⟩
            case measure => simp [intOf]; omega
          · have y2 : ¬ (9223372036854775807 < acc.size + (digS T).size) := by omega
            go_wp2_with fail
            refine (told T _ _ rfl (by omega)).mono ?_
            rintro e w2 ⟨rfl, b2⟩
            have hB2 := hB.trans (b2.mono hB.size)
            have e2 := (hB2.cell (p := ⟨bb, off + k * 2 + 1, none⟩) hbs).trans c1M
            go_wp2
            go_roundw
            case rel =>
              have e5 : behindB (aheadB acc false ++ digS T) M = ((acc) ++ digS T) := by unfold behindB aheadB; rw [if_neg (show ¬ (1 : Int) < (M : Int) by omega)]; rfl
              have e6 := Hst.out
              simp only [Int.toNat_natCast] at e6
              rw [show decide (0 < k) = false from decide_eq_false (by omega), e5] at e6
              exact ⟨k+1, _, by omega, by go_num, rfl, by simp [ByteArray.size_append, sz32, sz42]; omega, Same.mk (by rw [show decide (0 < k + 1) = true from decide_eq_true (by omega)]; exact e6), hB2⟩
            case measure => simp [intOf]; omega
      · have hst := hS.out
        rw [List.drop_eq_nil_of_le (by omega)] at hst
        have Hst := hid (show acc = textFrom xs ByteArray.empty false from hst)
        clear hst
        go_wp2
        go_ret2
        exact ⟨by rw [hT.out, ← Hst.out]; rfl, hB⟩
end Go.Proofs.YtjcoakgdhiiiaaaDoor
