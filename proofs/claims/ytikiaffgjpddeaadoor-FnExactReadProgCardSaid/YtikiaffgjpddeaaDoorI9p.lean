/- Chapter 9's program: a text parted, rune by rune. -/
import Derived.Test.YtikiaffgjpddeaaDoorS9l
import Derived.Laws.RangeAny
import Derived.Lib.OthersKept
import Derived.Lib.DecodeN
import Derived.WalkSmall
namespace Go.Proofs.YtikiaffgjpddeaaDoor
set_option maxRecDepth 100000
open Go.RowKit Go.Proofs Go.Own
set_option linter.unusedVariables false
set_option linter.unusedSimpArgs false
theorem getb (s : ByteArray) (i : Nat) (h : i < s.size) : (s.get! i).toNat = bt s i := by
  rw [← bt_eq h]
  congr 1
  simp [ByteArray.get!, getElem!_pos, h]
  rfl
/-- A rune of more than a byte has no byte below 128. -/
theorem dec_high (s : ByteArray) (p : Nat) (h : p < s.size) (ha : 128 ≤ bt s p) : 1 ≤ (Utf8.decode s p).2 ∧ p + (Utf8.decode s p).2 ≤ s.size ∧ 128 ≤ (Utf8.decode s p).1 ∧ ∀ j, p ≤ j → j < p + (Utf8.decode s p).2 → 128 ≤ bt s j := by
  have hh := decode_high s p h (by rw [bt_eq h]; exact ha)
  refine ⟨hh.2, ?_, hh.1, ?_⟩
  · rw [Lib.decode_at]; unfold Lib.decodeN
    repeat' split
    all_goals simp only
    all_goals omega
  · intro j hj hj2
    rw [Lib.decode_at, getb s p h] at hj2
    unfold Lib.decodeN at hj2
    have g := fun i (hi : i < s.size) => getb s i hi
    by_cases e0 : j = p
    · subst e0; exact ha
    · have hjs : j < s.size := by
        have h2 : p + (Utf8.decode s p).2 ≤ s.size := by
          rw [Lib.decode_at]; unfold Lib.decodeN
          repeat' split
          all_goals simp only
          all_goals omega
        rw [Lib.decode_at, getb s p h] at h2
        unfold Lib.decodeN at h2
        omega
      repeat' split at hj2
      all_goals simp only at hj2
      all_goals first | omega | (have hj3 : j = p + 1 ∨ j = p + 2 ∨ j = p + 3 := by omega
                                 rcases hj3 with rfl | rfl | rfl <;> (rw [← g _ hjs]; omega))
theorem drop_step {m : UInt8} {L : List UInt8} {k n : Nat} (h : k + n ≤ L.length) (hno : ∀ j, k ≤ j → (hj : j < k + n) → L[j]'(by omega) ≠ m) :
    partsL m (L.take (k + n)) = ((partsL m (L.take k)).1, (partsL m (L.take k)).2 ++ (L.drop k).take n) := by
  have e : L.take (k + n) = L.take k ++ (L.drop k).take n := by rw [List.take_add]
  have h2 : m ∉ (L.drop k).take n := by
    intro hm
    obtain ⟨i, hi, e2⟩ := List.getElem_of_mem hm
    rw [List.getElem_take, List.getElem_drop] at e2
    rw [List.length_take, List.length_drop] at hi
    exact hno (k + i) (by omega) (by omega) e2
  unfold partsL
  rw [e, List.foldl_append, foldP_no m _ _ h2]
theorem iter_kept {w w' : World} {B k p : Nat} {s : ByteArray} (h : Below B w w') (hk : k < B) (hi : w.heap[k]? = some (.stringIter s p)) : w'.heap[k]? = some (.stringIter s p) := (h.block k hk).trans hi
theorem mark_eq (c m : UInt8) (hm : m.toNat < 128) : ((c.toNat : Int) == (m.toNat : Int)) = decide (c = m) := by
  by_cases h : c = m
  · subst h; simp
  · rw [decide_eq_false h]
    exact beq_eq_false_iff_ne.mpr (fun e => h (UInt8.toNat_inj.1 (by omega)))
set_option maxHeartbeats 8000000 in
theorem impl_parted (s : ByteArray) (m : UInt8) (hm : m.toNat < 128) (w : World) (hs : s.size ≤ 1000) :
    Calls Tryd.prog 25 #[.string s, .int .i32 (m.toNat : Int)] w fun e w' => ∃ v : Value, e = .returned v ∧ w'.ownsRow w.heap.size 9 1 v ((partsL m s.data.toList).1 ++ [(partsL m s.data.toList).2]).length (((partsL m s.data.toList).1 ++ [(partsL m s.data.toList).2]).map tS) ∧ Below w.heap.size w w' := by
  obtain ⟨i0, hi, hz0, hz1, hz2⟩ := info_parts infoStr
  obtain ⟨L, hL⟩ : ∃ L, s.data.toList = L := ⟨_, rfl⟩
  have hLs : L.length = s.size := by rw [← hL]; rfl
  have HL := hid hL
  rw [hL]
  clear hL
  obtain ⟨W1, hW1⟩ : ∃ X, w.iter s 0 = X := ⟨_, rfl⟩
  have hB1 : Below w.heap.size w W1 := by rw [← hW1]; exact (Below.refl _ _).alloc (Nat.le_refl _) _
  have hI1 : W1.heap[w.heap.size]? = some (.stringIter s 0) := by rw [← hW1]; exact World.iter_heap w s 0
  have hN1 : w.heap.size < W1.heap.size := by rw [← hW1]; simp [World.iter]
  have oN : W1.ownsRow W1.heap.size 9 1 (.slice none 0 0) 0 [] := World.ownsRow_nil _ _ _ _
  have HW1 := hid hW1
  clear hW1
  go_enter Tryd.func25, Tryd.ntmps25
  go_wp2_with fail
  rw [HW1.out]
  go_loopw [5, 6] (fun o f wr => ∃ k q : Nat, k ≤ s.size ∧ q ≤ k ∧ f = .int .i64 q ∧ Hid ((L.take k).drop q = (partsL m (L.take k)).2) ∧ wr.ownsRow W1.heap.size 9 1 o (partsL m (L.take k)).1.length ((partsL m (L.take k)).1.map tS) ∧ wr.heap[w.heap.size]? = some (.stringIter s k) ∧ W1.heap.size ≤ wr.heap.size ∧ Below w.heap.size w wr) (fun _ _ wr => s.size - wr.iterPos w.heap.size)
  case atStart => exact ⟨0, 0, by omega, by omega, rfl, hid rfl, by simpa [partsL] using oN, hI1, Nat.le_refl _, hB1⟩
  case round =>
    clear oN hB1 hI1 HW1
    obtain ⟨k, q, hk, hq, rfl, hD, o, hI, hz1r, hB⟩ := hrel
    obtain ⟨wk, hwk⟩ : ∃ X, X = wr := ⟨_, rfl⟩
    subst hwk
    have hpos := iterPos_of hI
    by_cases hlt : k < s.size
    · have hnx := fun ty => Lib.run_next_any_at (P := Tryd.prog) wk w.heap.size s k ty hI hlt
      have hkl : k < L.length := by omega
      have hbl := bt_list s k (by rw [HL.out]; exact hkl)
      simp only [HL.out] at hbl
      have hsum := partsL_sum m L k (by omega)
      obtain ⟨wd, hwd⟩ : ∃ n, (Utf8.decode s k).2 = n := ⟨_, rfl⟩
      obtain ⟨rn, hrn⟩ : ∃ n, (Utf8.decode s k).1 = n := ⟨_, rfl⟩
      rw [hwd, hrn] at hnx
      obtain ⟨X, hX⟩ : ∃ X, wk.iterAt w.heap.size s (k + wd) = X := ⟨_, rfl⟩
      rw [hX] at hnx
      have oX := ownsRow_iterAt o hN1 s (k + wd)
      rw [hX] at oX
      have hIX : X.heap[w.heap.size]? = some (.stringIter s (k + wd)) := by rw [← hX]; exact Lib.iterAt_heap wk _ s k _ hI
      have hzX : W1.heap.size ≤ X.heap.size := by rw [← hX, Lib.iterAt_size]; exact hz1r
      have hBX : Below w.heap.size w X := by rw [← hX]; exact Lib.below_iterAt hB (Nat.le_refl _) _ _
      have hposX := iterPos_of hIX
      clear hX o hI hz1r hB
      by_cases h128 : bt s k < 128
      · have hda := decode_ascii s k hlt (by rw [bt_eq hlt]; exact h128)
        have hwd1 : wd = 1 := by rw [← hwd, hda]
        have hrn1 : rn = L[k].toNat := by rw [← hrn, hda, bt_eq hlt, hbl]
        subst hwd1
        have hrm : ((rn : Int) == (m.toNat : Int)) = decide (L[k] = m) := by rw [hrn1]; exact mark_eq _ _ hm
        clear hda hwd hrn hrn1
        by_cases hc : L[k] = m
        · rw [decide_eq_true hc] at hrm
          have hst := hid (show partsL m (L.take (k+1)) = ((partsL m (L.take k)).1 ++ [(partsL m (L.take k)).2], []) by rw [partsL_take hkl]; unfold addP; rw [if_pos hc])
          have hx : s.extract q k = BA (partsL m (L.take k)).2 := by rw [ext_BA, HL.out, hD.out]
          have i1 : (0 : Int) ≤ (q : Int) := by omega
          have i2 : (q : Int) ≤ (k : Int) := by omega
          have i3 : (k : Int) ≤ (s.size : Int) := by omega
          have oA := World.ownsRow.alloc oX (.cells #[.string (BA (partsL m (L.take k)).2)] 9)
          have hq2 := hid (show (L.take (k+1)).drop (k+1) = [] from List.drop_eq_nil_of_le (by rw [List.length_take]; omega))
          have hwl := hsum.1
          have HpX := hid hposX
          have hw1 : IntKind.i64.wrap ((k : Int) + 1) = (k : Int) + 1 := IntWalk.i64_in _ (by omega)
          clear hbl hsum hc hposX
          go_wp2_with (at_builtin; refine wpList_append_flat rfl _ _ 41 rfl W1.heap.size 9 i0 (.string ByteArray.empty) 1 16 Tryd.underlying41 hi hz0 hz1 hz2 rfl (by decide) _ _ _ rfl oA _ 1 [.string (BA (partsL m (L.take k)).2)] rfl (Flat.of_owns (owns_lit1 X 9 (.string (BA (partsL m (L.take k)).2)) 0 (Nat.zero_le _))) (by intro c hc; simp at hc; subst hc; rfl) (by unfold maxLen; omega) (by omega) (by simp; omega) ?_)
          intro v2 w2 o2 g2
          have b2 := below_of_mark oA g2 (Nat.le_refl _) (by simp; omega)
          have hI2 := iter_kept b2 hN1 (iter_kept ((Below.refl X.heap.size X).alloc (Nat.le_refl _) (.cells #[.string (BA (partsL m (L.take k)).2)] 9)) (by omega) hIX)
          have hz2 := b2.size
          have hB2 : Below w.heap.size w w2 := Below.trans (hBX.alloc hBX.size _) (b2.mono (Nat.le_of_lt hN1))
          have hp2 := hid (iterPos_of hI2)
          go_wp2
          go_roundw
          case rel => exact ⟨k+1, k+1, by omega, by omega, by go_num, hid (by rw [hq2.out, hst.out]), by rw [hst.out, List.length_append, List.map_append]; exact o2, hI2, by simp at hz2; omega, hB2⟩
          case measure => rw [hp2.out, hpos]; omega
        · rw [decide_eq_false hc] at hrm
          have hst := hid (show partsL m (L.take (k+1)) = ((partsL m (L.take k)).1, (partsL m (L.take k)).2 ++ [L[k]]) by rw [partsL_take hkl]; unfold addP; rw [if_neg hc])
          have hq2 := hid (show (L.take (k+1)).drop q = (L.take k).drop q ++ [L[k]] by rw [List.take_succ_eq_append_getElem hkl, List.drop_append_of_le_length (by rw [List.length_take]; omega)])
          have HpX := hid hposX
          clear hbl hsum hc hposX
          go_wp2
          go_roundw
          case rel => exact ⟨k+1, q, by omega, by omega, rfl, hid (by rw [hq2.out, hst.out, hD.out]), by rw [hst.out]; exact oX, hIX, hzX, hBX⟩
          case measure => rw [HpX.out, hpos]; omega
      · have hd := dec_high s k hlt (by omega)
        rw [hwd, hrn] at hd
        obtain ⟨d1, d2, d3, d4⟩ := hd
        have hrm : ((rn : Int) == (m.toNat : Int)) = false := beq_eq_false_iff_ne.mpr (by omega)
        have hno : ∀ j, k ≤ j → (hj : j < k + wd) → L[j]'(by omega) ≠ m := fun j h1 h2 e => by
          have h3 := d4 j h1 h2
          have h4 := bt_list s j (by rw [HL.out]; omega)
          simp only [HL.out] at h4
          rw [e] at h4
          omega
        have hst := hid (drop_step (m := m) (L := L) (k := k) (n := wd) (by omega) hno)
        have hq2 := hid (show (L.take (k+wd)).drop q = (L.take k).drop q ++ (L.drop k).take wd by rw [List.take_add, List.drop_append_of_le_length (by rw [List.length_take]; omega)])
        have HpX := hid hposX
        clear hbl hsum hposX d3 d4 hno
        go_wp2
        go_roundw
        case rel => exact ⟨k+wd, q, by omega, by omega, rfl, hid (by rw [hq2.out, hst.out, hD.out]), by rw [hst.out]; exact oX, hIX, hzX, hBX⟩
        case measure => rw [HpX.out, hpos]; omega
    · have hnx := fun ty => Lib.run_next_end_at (P := Tryd.prog) wk w.heap.size s k ty hI hlt
      obtain rfl : k = s.size := by omega
      have hf : L.take s.size = L := List.take_of_length_le (by omega)
      rw [hf] at o hD
      have hsum := (partsL_sum m L L.length (Nat.le_refl _)).1
      rw [List.take_of_length_le (Nat.le_refl _)] at hsum
      have hx : s.extract q s.size = BA (partsL m L).2 := by rw [ext_BA, HL.out, hf, hD.out]
      have i1 : (0 : Int) ≤ (q : Int) := by omega
      have i2 : (q : Int) ≤ (s.size : Int) := by omega
      have oA := World.ownsRow.alloc o (.cells #[.string (BA (partsL m L).2)] 9)
      clear hpos hI
      go_wp2_with (at_builtin; refine wpList_append_flat rfl _ _ 41 rfl W1.heap.size 9 i0 (.string ByteArray.empty) 1 16 Tryd.underlying41 hi hz0 hz1 hz2 rfl (by decide) _ _ _ rfl oA _ 1 [.string (BA (partsL m L).2)] rfl (Flat.of_owns (owns_lit1 wk 9 (.string (BA (partsL m L).2)) 0 (Nat.zero_le _))) (by intro c hc; simp at hc; subst hc; rfl) (by unfold maxLen; omega) (by omega) (by simp; omega) ?_)
      intro v2 w2 o2 g2
      have b2 := below_of_mark oA g2 (Nat.le_of_lt hN1) (by simp; omega)
      have hB2 : Below w.heap.size w w2 := Below.trans (hB.alloc hB.size _) b2
      go_wp2
      go_ret
      exact ⟨v2, rfl, owns_mono (by rw [List.length_append, List.map_append]; exact o2) (Nat.le_of_lt hN1), hB2⟩
end Go.Proofs.YtikiaffgjpddeaaDoor
