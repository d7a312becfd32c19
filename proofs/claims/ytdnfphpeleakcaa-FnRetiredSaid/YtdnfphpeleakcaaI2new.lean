/- Chapter 2's program: NewArena. -/
import Derived.Test.YtdnfphpeleakcaaS2new
import Derived.Test.YtdnfphpeleakcaaI2d
import Derived.RegionTactic
import Derived.ChangeAlike
import Derived.Laws.OwnMore
namespace Go.Proofs.Ytdnfphpeleakcaa
set_option maxRecDepth 100000
open Go.RowKit Go.Proofs Go.Own
set_option linter.unusedVariables false
set_option linter.unusedSimpArgs false

theorem madeBlocks (q : Nat) : (madeCells #[Value.int .i64 0, Value.bool false, Value.int .i64 0, Value.int .i64 0, Value.int .i64 0] (q * 5)).toList = (List.replicate q zeroB).flatMap Block.enc := by
  apply List.ext_getElem?; intro i
  by_cases hi : i < q * 5
  · have h1 := flatMap_get Block.enc 5 (fun _ => rfl) (List.replicate q zeroB) (i / 5) (by simp; omega) (i % 5) (by omega)
    rw [show i / 5 * 5 + i % 5 = i by omega] at h1
    rw [h1, List.getElem_replicate]
    have h5 : i % 5 = 0 ∨ i % 5 = 1 ∨ i % 5 = 2 ∨ i % 5 = 3 ∨ i % 5 = 4 := by omega
    simp only [madeCells, Array.toList_map, Array.toList_range, List.getElem?_map, List.getElem?_range hi, Option.map_some]
    rcases h5 with e | e | e | e | e <;> simp [e, Block.enc, zeroB]
  · rw [List.getElem?_eq_none (by simp [madeCells]; omega), List.getElem?_eq_none (by rw [flatMap_len Block.enc 5 (fun _ => rfl)]; simp; omega)]
theorem madeInts (q : Nat) : (madeCells #[Value.int .i64 0] (q * 1)).toList = (List.replicate q (0 : Int)).flatMap encI := by
  rw [toList_madeCells_one, Nat.mul_one, encI_map, List.map_replicate]
def mixB (q k : Nat) : List Block := (List.range q).map fun i => if i < k then oneB else zeroB
def mixL (q k : Nat) : List Int := (List.range q).map fun i : Nat => if i < k then (i : Int) else 0
theorem mixB_len (q k : Nat) : (mixB q k).length = q := by simp [mixB]
theorem mixL_len (q k : Nat) : (mixL q k).length = q := by simp [mixL]
theorem mixB_zero (q : Nat) : mixB q 0 = List.replicate q zeroB := by
  apply List.ext_getElem?; intro i; simp [mixB, List.getElem?_replicate]
  by_cases h : i < q <;> simp [h]
theorem mixL_zero (q : Nat) : mixL q 0 = List.replicate q (0 : Int) := by
  apply List.ext_getElem?; intro i; simp [mixL, List.getElem?_replicate]
  by_cases h : i < q <;> simp [h]
theorem mixB_all (q : Nat) : mixB q q = newB q := by
  apply List.ext_getElem?; intro i; simp only [mixB, newB, List.getElem?_replicate, List.getElem?_map]
  by_cases h : i < q <;> simp [h]
theorem mixL_all (q : Nat) : mixL q q = newL q := by
  apply List.ext_getElem?; intro i; simp only [mixL, newL, List.getElem?_map]
  by_cases h : i < q <;> simp [h]
theorem mixB_get (q k : Nat) (h : k < q) : (mixB q k)[k]'(by rw [mixB_len]; exact h) = zeroB := by simp [mixB]
theorem mixB_set (q k : Nat) (h : k < q) : ((mixB q k).flatMap Block.enc).set (k * 5 + 1) (.bool true) = (mixB q (k+1)).flatMap Block.enc := by
  rw [set_free (mixB q k) k true (by rw [mixB_len]; exact h)]
  congr 1
  apply List.ext_getElem?; intro i
  rw [List.getElem?_set]
  by_cases e : k = i
  · subst e
    have hg : (mixB q k).getD k zeroB = zeroB := by rw [List.getD, List.getElem?_eq_getElem (by rw [mixB_len]; exact h), mixB_get q k h]; rfl
    rw [hg]; simp [mixB, h, oneB, zeroB]
  · rw [if_neg e]; simp only [mixB, List.getElem?_map]
    by_cases hi : i < q
    · have : (i < k + 1) = (i < k) := by simp; omega
      simp [hi, this]
    · simp [hi]
theorem mixL_set (q k : Nat) (h : k < q) : ((mixL q k).flatMap encI).set k (.int .i64 k) = (mixL q (k+1)).flatMap encI := by
  rw [encI_set]
  congr 1
  apply List.ext_getElem?; intro i
  rw [List.getElem?_set]
  by_cases e : k = i
  · subst e; simp [mixL, h]
  · rw [if_neg e]; simp only [mixL, List.getElem?_map]
    by_cases hi : i < q
    · have : (i < k + 1) = (i < k) := by simp; omega
      simp [hi, this]
    · simp [hi]
/-- What the loop finds: the two rows and their box. -/
def NewRel (w X wr : World) (res q k A g0 g1 : Nat) : Prop :=
  BoxF wr res [Value.slice none 0 0, Value.slice none 0 0] ∧ BoxF wr A [Value.slice (some ⟨g0, 0, none⟩) q q, Value.slice (some ⟨g1, 0, none⟩) q q] ∧
  wr.ownsRow X.heap.size 64 5 (.slice (some ⟨g0, 0, none⟩) q q) q ((mixB q k).flatMap Block.enc) ∧ wr.ownsRow X.heap.size 3 1 (.slice (some ⟨g1, 0, none⟩) q q) q ((mixL q k).flatMap encI) ∧
  Below w.heap.size w wr ∧ A ≠ g0 ∧ A ≠ g1 ∧ X.heap.size ≤ A ∧ X.heap.size ≤ wr.heap.size
theorem new_start {w X W' : World} {res q A g0 g1 : Nat} {M0 M1 : Array Value} (hq : q ≤ 24) (hX : Below w.heap.size w X) (hB : Below X.heap.size X W') (hres : BoxF X res [Value.slice none 0 0, Value.slice none 0 0])
    (h0 : W'.heap[g0]? = some (.cells M0 64 (0, 0))) (h1 : W'.heap[g1]? = some (.cells M1 3 (0, 0))) (hA : W'.heap[A]? = some (.cells #[Value.slice (some ⟨g0, 0, none⟩) q q, Value.slice (some ⟨g1, 0, none⟩) q q] 27 (0, 0)))
    (s0 : Hid (M0.size = q * 5)) (s1 : Hid (M1.size = q * 1)) (e0 : Hid (M0.toList = (mixB q 0).flatMap Block.enc)) (e1 : Hid (M1.toList = (mixL q 0).flatMap encI)) (b0 : X.heap.size ≤ g0) (b1 : X.heap.size ≤ g1) (bA : X.heap.size ≤ A) (n0 : A ≠ g0) (n1 : A ≠ g1) : NewRel w X W' res q 0 A g0 g1 :=
  ⟨hres.below hB, BoxF.ofHeap hA, by rw [← e0.out]; exact owns_ofHeap h0 b0 s0.out (by unfold maxLen; omega), by rw [← e1.out]; exact owns_ofHeap h1 b1 s1.out (by unfold maxLen; omega), hX.trans (hB.mono hX.size), n0, n1, bA, hB.size⟩
set_option maxRecDepth 100000 in
set_option maxHeartbeats 8000000 in
theorem impl_NewArena (n : Int) (w : World) (hb : InI n := by assumption) :
    Calls Try.prog 37 #[.int .i64 n] w fun e w' => ∃ u0 u1, e = .returned (.tuple #[.agg #[u0, u1], .bool (newArenaF n).2]) ∧ w'.ownsRow w.heap.size 64 5 u0 (newArenaF n).1.blocks.length ((newArenaF n).1.blocks.flatMap Block.enc) ∧ (newArenaF n).1.blocks.length ≤ 1099511627776 ∧ w'.ownsRow w.heap.size 3 1 u1 (newArenaF n).1.list.length ((newArenaF n).1.list.flatMap encI) ∧ (newArenaF n).1.list.length ≤ 1099511627776 ∧ ((u0.ownBlock = none ∨ u0.ownBlock ≠ u1.ownBlock) ∧ (u1.ownBlock = none ∨ u1.ownBlock ≠ u0.ownBlock)) ∧ Below w.heap.size w w' := by
  have tt_1 : Below w.heap.size w w := Below.refl _ _
  obtain ⟨X_2, hX_3⟩ : ∃ X, w.alloc (.cells #[Value.slice none 0 0, Value.slice none 0 0] 27) = X := ⟨_, rfl⟩
  have bX_4 : Below w.heap.size w X_2 := by rw [← hX_3]; exact (Below.refl _ _).alloc (Nat.le_refl _) _
  have zs_5 : w.heap.size + 1 ≤ X_2.heap.size := by rw [← hX_3]; simp
  have zz_6 := Below.size bX_4
  have tt_7 : Below w.heap.size w X_2 := Below.trans tt_1 (Below.mono bX_4 (Below.size tt_1))
  have bx_8 : BoxF X_2 w.heap.size [Value.slice none 0 0, Value.slice none 0 0] := by rw [← hX_3]; exact BoxF.alloc _ _ _
  cases hn : inB n 1 24
  case false =>
    have HN := hid (newArenaF_no n hn)
    have hn2 : (n < 1) ∨ (¬ (n < 1) ∧ (24 : Int) < n) := by simp [inB] at hn; omega
    clear hn
    rcases hn2 with hn2 | ⟨hn2, hn3⟩
    all_goals
      have k_1009 : X_2.cell? ⟨w.heap.size, 0, none⟩ = some (Value.slice none 0 0) := bx_8.1.2 0 (by simp)
      have k_1010 : X_2.frozen? ⟨w.heap.size, 0, none⟩ = false := bx_8.2 0 (by simp)
      have k_1011 : X_2.cell? ⟨w.heap.size, 1, none⟩ = some (Value.slice none 0 0) := bx_8.1.2 1 (by simp)
      have k_1012 : X_2.frozen? ⟨w.heap.size, 1, none⟩ = false := bx_8.2 1 (by simp)
      go_enter Try.func37, Try.ntmps37
      go_wp2
      refine bodyPost_ret (v := .tuple #[.agg #[Value.slice none 0 0, Value.slice none 0 0], .bool false]) ?_ rfl ⟨_, _, by rw [HN.out], ?_⟩
      · simp [results, Try.results37, go_sem, hX_3, k_1009, k_1010, k_1011, k_1012]
      · rw [HN.out]
        exact ⟨World.ownsRow_nil _ _ _ _, Nat.zero_le _, World.ownsRow_nil _ _ _ _, Nat.zero_le _, ⟨.inl rfl, .inl rfl⟩, Below.setCell (Below.setCell tt_7 (by show w.heap.size ≤ w.heap.size; omega) _) (by show w.heap.size ≤ w.heap.size; omega) _⟩
  obtain ⟨q, rfl⟩ : ∃ q : Nat, n = q := ⟨n.toNat, by simp [inB] at hn; omega⟩
  have hq1 : 1 ≤ q ∧ q ≤ 24 := by simp [inB] at hn; omega
  obtain ⟨hq1, hq24⟩ := hq1
  have HY := hid (newArenaF_yes q hn)
  have hn1 : ¬ ((q : Int) < 1) := by omega
  have hn2 : ¬ ((24 : Int) < q) := by omega
  clear hn
  obtain ⟨i0, hi, hz0, hz1, hz2⟩ := info_parts infoBlock
  obtain ⟨j0, hj, hy0, hy1, hy2⟩ := info_parts infoInt
  obtain ⟨M0, hM0⟩ : ∃ M, Hid (madeCells #[Value.int .i64 0, Value.bool false, Value.int .i64 0, Value.int .i64 0, Value.int .i64 0] (q * 5) = M) := ⟨_, hid rfl⟩
  obtain ⟨M1, hM1⟩ : ∃ M, Hid (madeCells #[Value.int .i64 0] (q * 1) = M) := ⟨_, hid rfl⟩
  have mk0 : ∀ w, (Instr.makeSlice 24 (.int .i64 (q : Int)) (.int .i64 (q : Int))).run Try.prog w = .ok (.slice (some ⟨w.heap.size, 0, none⟩) q q) (w.alloc (.cells M0 64)) := fun w => by
    have h := run_makeSlice (P := Try.prog) w 24 64 i0 _ Try.underlying24 hi hz0 .i64 .i64 q q (by omega) (Int.le_refl _) (by rw [hz1]; omega) (by rw [hz2]; omega) (by omega)
    rw [hz1, Int.toNat_natCast] at h
    rw [← hM0.out]; exact h
  have mk1 : ∀ w, (Instr.makeSlice 25 (.int .i64 (q : Int)) (.int .i64 (q : Int))).run Try.prog w = .ok (.slice (some ⟨w.heap.size, 0, none⟩) q q) (w.alloc (.cells M1 3)) := fun w => by
    have h := run_makeSlice (P := Try.prog) w 25 3 j0 _ Try.underlying25 hj hy0 .i64 .i64 q q (by omega) (Int.le_refl _) (by rw [hy1]; omega) (by rw [hy2]; omega) (by omega)
    rw [hy1, Int.toNat_natCast] at h
    rw [← hM1.out]; exact h
  have hs0 : M0.size = q * 5 := by rw [← hM0.out]; exact size_madeCells _ _
  have hs1 : M1.size = q * 1 := by rw [← hM1.out]; exact size_madeCells _ _
  have e0 := hid (show M0.toList = (mixB q 0).flatMap Block.enc by rw [← hM0.out, mixB_zero]; exact madeBlocks q)
  have e1 := hid (show M1.toList = (mixL q 0).flatMap encI by rw [← hM1.out, mixL_zero]; exact madeInts q)
  have S0 := hid hs0; have S1 := hid hs1; clear hs0 hs1 hi hz0 hz1 hz2 hj hy0 hy1 hy2
  have k_9 : X_2.cell? ⟨w.heap.size, 0, none⟩ = some (Value.slice none 0 0) := bx_8.1.2 0 (by simp)
  have k_10 : X_2.frozen? ⟨w.heap.size, 0, none⟩ = false := bx_8.2 0 (by simp)
  have k_11 : X_2.cell? ⟨w.heap.size, 1, none⟩ = some (Value.slice none 0 0) := bx_8.1.2 1 (by simp)
  have k_12 : X_2.frozen? ⟨w.heap.size, 1, none⟩ = false := bx_8.2 1 (by simp)
  go_enter Try.func37, Try.ntmps37
  go_wp2
  clear hX_3 k_9 k_10 k_11 k_12
  go_region
  all_goals go_wp2
  ·
    go_loopw [19] (fun i wr => ∃ (k : Nat), k ≤ q ∧ i = .int .i64 k ∧ NewRel w X_2 wr w.heap.size q k (X_2.heap.size + 1 + 1) (X_2.heap.size) (X_2.heap.size + 1)) (fun i _ => q - (intOf i).toNat)
    case atStart =>
      obtain ⟨r0, r1, r2, rs⟩ := alloc3 X_2 _ _ _
      refine ⟨0, by omega, rfl, new_start (M0 := M0) (M1 := M1) hq24 tt_7 ?_ bx_8 (by first | exact r0 | exact r1 | exact r2) (by first | exact r0 | exact r1 | exact r2) (by first | exact r0 | exact r1 | exact r2) S0 S1 e0 e1 (by omega) (by omega) (by omega) (by omega) (by omega)⟩
      repeat (first | exact Below.refl _ _ | refine Below.drew ?_ | refine Below.alloc ?_ (by simp; try omega) _)
    case round =>
      obtain ⟨k, hk, rfl, bxr, bxo, o0, o1, hB, hA0, hA1, hAX, hS⟩ := hrel
      have hg0 := owns_lt o0
      have hg1 := owns_lt o1
      obtain ⟨hg0, hg0s⟩ := hg0
      obtain ⟨hg1, hg1s⟩ := hg1
      have apT := apart_types o0 o1 (by decide)
      by_cases hlt : k < q
      ·
        have hel := CellsO.ofBlock o0 k (by rw [mixB_len]; exact hlt) zeroB (hid (mixB_get q k hlt)) (mixB_len q k)
        have hel1 := CellsO.ofInts o1 k (by rw [mixL_len]; exact hlt) 0 (hid (by simp [mixL])) (mixL_len q k)
        replace hel : CellsO wr (X_2.heap.size) (k * 5) [Value.int .i64 0, Value.bool false, Value.int .i64 0, Value.int .i64 0, Value.int .i64 0] := hel
        have hi1 : (0 : Int) ≤ (k : Int) := by omega
        have hi2 : (k : Int) < (q : Int) := by omega
        have hne : True := trivial
        have k_2013 : wr.cell? ⟨w.heap.size, 0, none⟩ = some (Value.slice none 0 0) := bxr.1.2 0 (by simp)
        have k_2014 : wr.cell? ⟨w.heap.size, 1, none⟩ = some (Value.slice none 0 0) := bxr.1.2 1 (by simp)
        have k_2015 : wr.cell? ⟨X_2.heap.size + 1 + 1, 0, none⟩ = some (Value.slice (some ⟨X_2.heap.size, 0, none⟩) q q) := bxo.1.2 0 (by simp)
        have k_2016 : wr.frozen? ⟨X_2.heap.size + 1 + 1, 0, none⟩ = false := bxo.2 0 (by simp)
        have k_2017 : wr.cell? ⟨X_2.heap.size + 1 + 1, 1, none⟩ = some (Value.slice (some ⟨X_2.heap.size + 1, 0, none⟩) q q) := bxo.1.2 1 (by simp)
        have k_2018 : wr.frozen? ⟨X_2.heap.size + 1 + 1, 1, none⟩ = false := bxo.2 1 (by simp)
        have k_2019 : wr.cell? ⟨(X_2.heap.size), k * 5, none⟩ = some (Value.int .i64 0) := (hel.2 0 (by simp)).1
        have k_2020 : wr.frozen? ⟨(X_2.heap.size), k * 5, none⟩ = false := (hel.2 0 (by simp)).2
        have k_2021 : wr.cell? ⟨(X_2.heap.size), k * 5 + 1, none⟩ = some (Value.bool false) := (hel.2 1 (by simp)).1
        have k_2022 : wr.frozen? ⟨(X_2.heap.size), k * 5 + 1, none⟩ = false := (hel.2 1 (by simp)).2
        have k_2023 : wr.cell? ⟨(X_2.heap.size), k * 5 + 2, none⟩ = some (Value.int .i64 0) := (hel.2 2 (by simp)).1
        have k_2024 : wr.frozen? ⟨(X_2.heap.size), k * 5 + 2, none⟩ = false := (hel.2 2 (by simp)).2
        have k_2025 : wr.cell? ⟨(X_2.heap.size), k * 5 + 3, none⟩ = some (Value.int .i64 0) := (hel.2 3 (by simp)).1
        have k_2026 : wr.frozen? ⟨(X_2.heap.size), k * 5 + 3, none⟩ = false := (hel.2 3 (by simp)).2
        have k_2027 : wr.cell? ⟨(X_2.heap.size), k * 5 + 4, none⟩ = some (Value.int .i64 0) := (hel.2 4 (by simp)).1
        have k_2028 : wr.frozen? ⟨(X_2.heap.size), k * 5 + 4, none⟩ = false := (hel.2 4 (by simp)).2
        have k_2029 : wr.cell? ⟨(X_2.heap.size + 1), k, none⟩ = some (Value.int .i64 0) := (hel1.2 0 (by simp)).1
        have k_2030 : wr.frozen? ⟨(X_2.heap.size + 1), k, none⟩ = false := (hel1.2 0 (by simp)).2
        obtain ⟨X_2031, hX_2032⟩ : ∃ X, wr.setCell ⟨X_2.heap.size, k * 5 + 1, none⟩ (Value.bool true) = X := ⟨_, rfl⟩
        have gr_2033 : wr.grownBy X_2031 (some (X_2.heap.size)) := by rw [← hX_2032]; exact (World.ownsRow.stored o0 (k * 5 + 1) (Value.bool true)).2
        have zz_2034 : wr.heap.size ≤ X_2031.heap.size := by rw [← hX_2032]; simp [World.setCell]
        have tt_2035 : Below w.heap.size w X_2031 := by rw [← hX_2032]; exact Below.setCell hB (by show w.heap.size ≤ X_2.heap.size; omega) _
        replace o0 := owns_put o0 (k * 5 + 1) (Value.bool true)
        rw [hX_2032] at o0
        replace o1 := World.ownsRow.kept o1 gr_2033 apT.2
        rw [mixB_set q k hlt] at o0
        replace bxr : BoxF X_2031 (w.heap.size) [Value.slice none 0 0, Value.slice none 0 0] := by rw [← hX_2032]; exact BoxF.other bxr _ _ (by show ¬ X_2.heap.size = w.heap.size; omega)
        replace bxo : BoxF X_2031 (X_2.heap.size + 1 + 1) [Value.slice (some ⟨X_2.heap.size, 0, none⟩) q q, Value.slice (some ⟨X_2.heap.size + 1, 0, none⟩) q q] := by rw [← hX_2032]; exact BoxF.other bxo _ _ (by show ¬ X_2.heap.size = X_2.heap.size + 1 + 1; omega)
        replace hel : CellsO X_2031 ((X_2.heap.size)) (k * 5) [Value.int .i64 0, Value.bool true, Value.int .i64 0, Value.int .i64 0, Value.int .i64 0] := by rw [← hX_2032]; exact CellsO.set hel 1 (by simp) _
        replace hel1 : CellsO X_2031 ((X_2.heap.size + 1)) (k) [Value.int .i64 0] := by rw [← hX_2032]; exact CellsO.other hel1 _ _ (by show ¬ X_2.heap.size = (X_2.heap.size + 1); omega)
        have k_2036 : X_2031.cell? ⟨w.heap.size, 0, none⟩ = some (Value.slice none 0 0) := bxr.1.2 0 (by simp)
        have k_2037 : X_2031.cell? ⟨w.heap.size, 1, none⟩ = some (Value.slice none 0 0) := bxr.1.2 1 (by simp)
        have k_2038 : X_2031.cell? ⟨X_2.heap.size + 1 + 1, 0, none⟩ = some (Value.slice (some ⟨X_2.heap.size, 0, none⟩) q q) := bxo.1.2 0 (by simp)
        have k_2039 : X_2031.frozen? ⟨X_2.heap.size + 1 + 1, 0, none⟩ = false := bxo.2 0 (by simp)
        have k_2040 : X_2031.cell? ⟨X_2.heap.size + 1 + 1, 1, none⟩ = some (Value.slice (some ⟨X_2.heap.size + 1, 0, none⟩) q q) := bxo.1.2 1 (by simp)
        have k_2041 : X_2031.frozen? ⟨X_2.heap.size + 1 + 1, 1, none⟩ = false := bxo.2 1 (by simp)
        have k_2042 : X_2031.cell? ⟨(X_2.heap.size), k * 5, none⟩ = some (Value.int .i64 0) := (hel.2 0 (by simp)).1
        have k_2043 : X_2031.frozen? ⟨(X_2.heap.size), k * 5, none⟩ = false := (hel.2 0 (by simp)).2
        have k_2044 : X_2031.cell? ⟨(X_2.heap.size), k * 5 + 1, none⟩ = some (Value.bool true) := (hel.2 1 (by simp)).1
        have k_2045 : X_2031.frozen? ⟨(X_2.heap.size), k * 5 + 1, none⟩ = false := (hel.2 1 (by simp)).2
        have k_2046 : X_2031.cell? ⟨(X_2.heap.size), k * 5 + 2, none⟩ = some (Value.int .i64 0) := (hel.2 2 (by simp)).1
        have k_2047 : X_2031.frozen? ⟨(X_2.heap.size), k * 5 + 2, none⟩ = false := (hel.2 2 (by simp)).2
        have k_2048 : X_2031.cell? ⟨(X_2.heap.size), k * 5 + 3, none⟩ = some (Value.int .i64 0) := (hel.2 3 (by simp)).1
        have k_2049 : X_2031.frozen? ⟨(X_2.heap.size), k * 5 + 3, none⟩ = false := (hel.2 3 (by simp)).2
        have k_2050 : X_2031.cell? ⟨(X_2.heap.size), k * 5 + 4, none⟩ = some (Value.int .i64 0) := (hel.2 4 (by simp)).1
        have k_2051 : X_2031.frozen? ⟨(X_2.heap.size), k * 5 + 4, none⟩ = false := (hel.2 4 (by simp)).2
        have k_2052 : X_2031.cell? ⟨(X_2.heap.size + 1), k, none⟩ = some (Value.int .i64 0) := (hel1.2 0 (by simp)).1
        have k_2053 : X_2031.frozen? ⟨(X_2.heap.size + 1), k, none⟩ = false := (hel1.2 0 (by simp)).2
        obtain ⟨X_2054, hX_2055⟩ : ∃ X, X_2031.setCell ⟨X_2.heap.size + 1, k, none⟩ (Value.int .i64 (k : Int)) = X := ⟨_, rfl⟩
        have gr_2056 : X_2031.grownBy X_2054 (some (X_2.heap.size + 1)) := by rw [← hX_2055]; exact (World.ownsRow.stored o1 (k) (Value.int .i64 (k : Int))).2
        have zz_2057 : X_2031.heap.size ≤ X_2054.heap.size := by rw [← hX_2055]; simp [World.setCell]
        have tt_2058 : Below w.heap.size w X_2054 := by rw [← hX_2055]; exact Below.setCell tt_2035 (by show w.heap.size ≤ X_2.heap.size + 1; omega) _
        replace o0 := World.ownsRow.kept o0 gr_2056 apT.1
        replace o1 := owns_put o1 (k) (Value.int .i64 (k : Int))
        rw [hX_2055] at o1
        rw [mixL_set q k hlt] at o1
        replace bxr : BoxF X_2054 (w.heap.size) [Value.slice none 0 0, Value.slice none 0 0] := by rw [← hX_2055]; exact BoxF.other bxr _ _ (by show ¬ X_2.heap.size + 1 = w.heap.size; omega)
        replace bxo : BoxF X_2054 (X_2.heap.size + 1 + 1) [Value.slice (some ⟨X_2.heap.size, 0, none⟩) q q, Value.slice (some ⟨X_2.heap.size + 1, 0, none⟩) q q] := by rw [← hX_2055]; exact BoxF.other bxo _ _ (by show ¬ X_2.heap.size + 1 = X_2.heap.size + 1 + 1; omega)
        replace hel : CellsO X_2054 ((X_2.heap.size)) (k * 5) [Value.int .i64 0, Value.bool true, Value.int .i64 0, Value.int .i64 0, Value.int .i64 0] := by rw [← hX_2055]; exact CellsO.other hel _ _ (by show ¬ X_2.heap.size + 1 = (X_2.heap.size); omega)
        replace hel1 : CellsO X_2054 ((X_2.heap.size + 1)) (k) [Value.int .i64 (k : Int)] := by rw [← hX_2055]; exact CellsO.set hel1 0 (by simp) _
        have zz_2059 : X_2.heap.size ≤ X_2054.heap.size := by omega
        have Hbxr := hid bxr
        have Hbxo := hid bxo
        have Ho0 := hid o0
        have Ho1 := hid o1
        have Htt_2058 := hid tt_2058
        have Hzz_2059 := hid zz_2059
        clear bxr bxo o0 o1 hel hel1
        go_wp2
        go_roundw
        case rel => exact ⟨k+1, by omega, by go_num, Hbxr.out, Hbxo.out, Ho0.out, Ho1.out, Htt_2058.out, hA0, hA1, hAX, Hzz_2059.out⟩
        case measure => simp [intOf]; omega
      ·
        obtain rfl : k = q := by omega
        have k_2013 : wr.cell? ⟨w.heap.size, 0, none⟩ = some (Value.slice none 0 0) := bxr.1.2 0 (by simp)
        have k_2014 : wr.frozen? ⟨w.heap.size, 0, none⟩ = false := bxr.2 0 (by simp)
        have k_2015 : wr.cell? ⟨w.heap.size, 1, none⟩ = some (Value.slice none 0 0) := bxr.1.2 1 (by simp)
        have k_2016 : wr.frozen? ⟨w.heap.size, 1, none⟩ = false := bxr.2 1 (by simp)
        have k_2017 : wr.cell? ⟨X_2.heap.size + 1 + 1, 0, none⟩ = some (Value.slice (some ⟨X_2.heap.size, 0, none⟩) k k) := bxo.1.2 0 (by simp)
        have k_2018 : wr.frozen? ⟨X_2.heap.size + 1 + 1, 0, none⟩ = false := bxo.2 0 (by simp)
        have k_2019 : wr.cell? ⟨X_2.heap.size + 1 + 1, 1, none⟩ = some (Value.slice (some ⟨X_2.heap.size + 1, 0, none⟩) k k) := bxo.1.2 1 (by simp)
        have k_2020 : wr.frozen? ⟨X_2.heap.size + 1 + 1, 1, none⟩ = false := bxo.2 1 (by simp)
        go_wp2
        refine bodyPost_ret (v := .tuple #[.agg #[Value.slice (some ⟨X_2.heap.size, 0, none⟩) k k, Value.slice (some ⟨X_2.heap.size + 1, 0, none⟩) k k], .bool true]) ?_ rfl ⟨_, _, by rw [HY.out], ?_⟩
        · simp [results, Try.results37, go_sem, k_2013, k_2014, k_2015, k_2016, k_2017, k_2018, k_2019, k_2020]
        · rw [HY.out]
          rw [mixB_all] at o0
          rw [mixL_all] at o1
          refine ⟨?_, by rw [newB_len]; omega, ?_, by rw [newL_len]; omega, apT, Below.setCell (Below.setCell hB (by show w.heap.size ≤ w.heap.size; omega) _) (by show w.heap.size ≤ w.heap.size; omega) _⟩
          · rw [newB_len]; exact owns_mono (owns_setCell (owns_setCell o0 _ _ (by show w.heap.size < _; omega)) _ _ (by show w.heap.size < _; omega)) (by omega)
          · rw [newL_len]; exact owns_mono (owns_setCell (owns_setCell o1 _ _ (by show w.heap.size < _; omega)) _ _ (by show w.heap.size < _; omega)) (by omega)
  ·
    go_loopw [19] (fun i wr => ∃ (k : Nat), k ≤ q ∧ i = .int .i64 k ∧ NewRel w X_2 wr w.heap.size q k (X_2.heap.size + 1) (X_2.heap.size) (X_2.heap.size + 1 + 1)) (fun i _ => q - (intOf i).toNat)
    case atStart =>
      obtain ⟨r0, r1, r2, rs⟩ := alloc3 X_2 _ _ _
      refine ⟨0, by omega, rfl, new_start (M0 := M0) (M1 := M1) hq24 tt_7 ?_ bx_8 (by first | exact r0 | exact r1 | exact r2) (by first | exact r0 | exact r1 | exact r2) (by first | exact r0 | exact r1 | exact r2) S0 S1 e0 e1 (by omega) (by omega) (by omega) (by omega) (by omega)⟩
      repeat (first | exact Below.refl _ _ | refine Below.drew ?_ | refine Below.alloc ?_ (by simp; try omega) _)
    case round =>
      obtain ⟨k, hk, rfl, bxr, bxo, o0, o1, hB, hA0, hA1, hAX, hS⟩ := hrel
      have hg0 := owns_lt o0
      have hg1 := owns_lt o1
      obtain ⟨hg0, hg0s⟩ := hg0
      obtain ⟨hg1, hg1s⟩ := hg1
      have apT := apart_types o0 o1 (by decide)
      by_cases hlt : k < q
      ·
        have hel := CellsO.ofBlock o0 k (by rw [mixB_len]; exact hlt) zeroB (hid (mixB_get q k hlt)) (mixB_len q k)
        have hel1 := CellsO.ofInts o1 k (by rw [mixL_len]; exact hlt) 0 (hid (by simp [mixL])) (mixL_len q k)
        replace hel : CellsO wr (X_2.heap.size) (k * 5) [Value.int .i64 0, Value.bool false, Value.int .i64 0, Value.int .i64 0, Value.int .i64 0] := hel
        have hi1 : (0 : Int) ≤ (k : Int) := by omega
        have hi2 : (k : Int) < (q : Int) := by omega
        have hne : True := trivial
        have k_2013 : wr.cell? ⟨w.heap.size, 0, none⟩ = some (Value.slice none 0 0) := bxr.1.2 0 (by simp)
        have k_2014 : wr.cell? ⟨w.heap.size, 1, none⟩ = some (Value.slice none 0 0) := bxr.1.2 1 (by simp)
        have k_2015 : wr.cell? ⟨X_2.heap.size + 1, 0, none⟩ = some (Value.slice (some ⟨X_2.heap.size, 0, none⟩) q q) := bxo.1.2 0 (by simp)
        have k_2016 : wr.frozen? ⟨X_2.heap.size + 1, 0, none⟩ = false := bxo.2 0 (by simp)
        have k_2017 : wr.cell? ⟨X_2.heap.size + 1, 1, none⟩ = some (Value.slice (some ⟨X_2.heap.size + 1 + 1, 0, none⟩) q q) := bxo.1.2 1 (by simp)
        have k_2018 : wr.frozen? ⟨X_2.heap.size + 1, 1, none⟩ = false := bxo.2 1 (by simp)
        have k_2019 : wr.cell? ⟨(X_2.heap.size), k * 5, none⟩ = some (Value.int .i64 0) := (hel.2 0 (by simp)).1
        have k_2020 : wr.frozen? ⟨(X_2.heap.size), k * 5, none⟩ = false := (hel.2 0 (by simp)).2
        have k_2021 : wr.cell? ⟨(X_2.heap.size), k * 5 + 1, none⟩ = some (Value.bool false) := (hel.2 1 (by simp)).1
        have k_2022 : wr.frozen? ⟨(X_2.heap.size), k * 5 + 1, none⟩ = false := (hel.2 1 (by simp)).2
        have k_2023 : wr.cell? ⟨(X_2.heap.size), k * 5 + 2, none⟩ = some (Value.int .i64 0) := (hel.2 2 (by simp)).1
        have k_2024 : wr.frozen? ⟨(X_2.heap.size), k * 5 + 2, none⟩ = false := (hel.2 2 (by simp)).2
        have k_2025 : wr.cell? ⟨(X_2.heap.size), k * 5 + 3, none⟩ = some (Value.int .i64 0) := (hel.2 3 (by simp)).1
        have k_2026 : wr.frozen? ⟨(X_2.heap.size), k * 5 + 3, none⟩ = false := (hel.2 3 (by simp)).2
        have k_2027 : wr.cell? ⟨(X_2.heap.size), k * 5 + 4, none⟩ = some (Value.int .i64 0) := (hel.2 4 (by simp)).1
        have k_2028 : wr.frozen? ⟨(X_2.heap.size), k * 5 + 4, none⟩ = false := (hel.2 4 (by simp)).2
        have k_2029 : wr.cell? ⟨(X_2.heap.size + 1 + 1), k, none⟩ = some (Value.int .i64 0) := (hel1.2 0 (by simp)).1
        have k_2030 : wr.frozen? ⟨(X_2.heap.size + 1 + 1), k, none⟩ = false := (hel1.2 0 (by simp)).2
        obtain ⟨X_2031, hX_2032⟩ : ∃ X, wr.setCell ⟨X_2.heap.size, k * 5 + 1, none⟩ (Value.bool true) = X := ⟨_, rfl⟩
        have gr_2033 : wr.grownBy X_2031 (some (X_2.heap.size)) := by rw [← hX_2032]; exact (World.ownsRow.stored o0 (k * 5 + 1) (Value.bool true)).2
        have zz_2034 : wr.heap.size ≤ X_2031.heap.size := by rw [← hX_2032]; simp [World.setCell]
        have tt_2035 : Below w.heap.size w X_2031 := by rw [← hX_2032]; exact Below.setCell hB (by show w.heap.size ≤ X_2.heap.size; omega) _
        replace o0 := owns_put o0 (k * 5 + 1) (Value.bool true)
        rw [hX_2032] at o0
        replace o1 := World.ownsRow.kept o1 gr_2033 apT.2
        rw [mixB_set q k hlt] at o0
        replace bxr : BoxF X_2031 (w.heap.size) [Value.slice none 0 0, Value.slice none 0 0] := by rw [← hX_2032]; exact BoxF.other bxr _ _ (by show ¬ X_2.heap.size = w.heap.size; omega)
        replace bxo : BoxF X_2031 (X_2.heap.size + 1) [Value.slice (some ⟨X_2.heap.size, 0, none⟩) q q, Value.slice (some ⟨X_2.heap.size + 1 + 1, 0, none⟩) q q] := by rw [← hX_2032]; exact BoxF.other bxo _ _ (by show ¬ X_2.heap.size = X_2.heap.size + 1; omega)
        replace hel : CellsO X_2031 ((X_2.heap.size)) (k * 5) [Value.int .i64 0, Value.bool true, Value.int .i64 0, Value.int .i64 0, Value.int .i64 0] := by rw [← hX_2032]; exact CellsO.set hel 1 (by simp) _
        replace hel1 : CellsO X_2031 ((X_2.heap.size + 1 + 1)) (k) [Value.int .i64 0] := by rw [← hX_2032]; exact CellsO.other hel1 _ _ (by show ¬ X_2.heap.size = (X_2.heap.size + 1 + 1); omega)
        have k_2036 : X_2031.cell? ⟨w.heap.size, 0, none⟩ = some (Value.slice none 0 0) := bxr.1.2 0 (by simp)
        have k_2037 : X_2031.cell? ⟨w.heap.size, 1, none⟩ = some (Value.slice none 0 0) := bxr.1.2 1 (by simp)
        have k_2038 : X_2031.cell? ⟨X_2.heap.size + 1, 0, none⟩ = some (Value.slice (some ⟨X_2.heap.size, 0, none⟩) q q) := bxo.1.2 0 (by simp)
        have k_2039 : X_2031.frozen? ⟨X_2.heap.size + 1, 0, none⟩ = false := bxo.2 0 (by simp)
        have k_2040 : X_2031.cell? ⟨X_2.heap.size + 1, 1, none⟩ = some (Value.slice (some ⟨X_2.heap.size + 1 + 1, 0, none⟩) q q) := bxo.1.2 1 (by simp)
        have k_2041 : X_2031.frozen? ⟨X_2.heap.size + 1, 1, none⟩ = false := bxo.2 1 (by simp)
        have k_2042 : X_2031.cell? ⟨(X_2.heap.size), k * 5, none⟩ = some (Value.int .i64 0) := (hel.2 0 (by simp)).1
        have k_2043 : X_2031.frozen? ⟨(X_2.heap.size), k * 5, none⟩ = false := (hel.2 0 (by simp)).2
        have k_2044 : X_2031.cell? ⟨(X_2.heap.size), k * 5 + 1, none⟩ = some (Value.bool true) := (hel.2 1 (by simp)).1
        have k_2045 : X_2031.frozen? ⟨(X_2.heap.size), k * 5 + 1, none⟩ = false := (hel.2 1 (by simp)).2
        have k_2046 : X_2031.cell? ⟨(X_2.heap.size), k * 5 + 2, none⟩ = some (Value.int .i64 0) := (hel.2 2 (by simp)).1
        have k_2047 : X_2031.frozen? ⟨(X_2.heap.size), k * 5 + 2, none⟩ = false := (hel.2 2 (by simp)).2
        have k_2048 : X_2031.cell? ⟨(X_2.heap.size), k * 5 + 3, none⟩ = some (Value.int .i64 0) := (hel.2 3 (by simp)).1
        have k_2049 : X_2031.frozen? ⟨(X_2.heap.size), k * 5 + 3, none⟩ = false := (hel.2 3 (by simp)).2
        have k_2050 : X_2031.cell? ⟨(X_2.heap.size), k * 5 + 4, none⟩ = some (Value.int .i64 0) := (hel.2 4 (by simp)).1
        have k_2051 : X_2031.frozen? ⟨(X_2.heap.size), k * 5 + 4, none⟩ = false := (hel.2 4 (by simp)).2
        have k_2052 : X_2031.cell? ⟨(X_2.heap.size + 1 + 1), k, none⟩ = some (Value.int .i64 0) := (hel1.2 0 (by simp)).1
        have k_2053 : X_2031.frozen? ⟨(X_2.heap.size + 1 + 1), k, none⟩ = false := (hel1.2 0 (by simp)).2
        obtain ⟨X_2054, hX_2055⟩ : ∃ X, X_2031.setCell ⟨X_2.heap.size + 1 + 1, k, none⟩ (Value.int .i64 (k : Int)) = X := ⟨_, rfl⟩
        have gr_2056 : X_2031.grownBy X_2054 (some (X_2.heap.size + 1 + 1)) := by rw [← hX_2055]; exact (World.ownsRow.stored o1 (k) (Value.int .i64 (k : Int))).2
        have zz_2057 : X_2031.heap.size ≤ X_2054.heap.size := by rw [← hX_2055]; simp [World.setCell]
        have tt_2058 : Below w.heap.size w X_2054 := by rw [← hX_2055]; exact Below.setCell tt_2035 (by show w.heap.size ≤ X_2.heap.size + 1 + 1; omega) _
        replace o0 := World.ownsRow.kept o0 gr_2056 apT.1
        replace o1 := owns_put o1 (k) (Value.int .i64 (k : Int))
        rw [hX_2055] at o1
        rw [mixL_set q k hlt] at o1
        replace bxr : BoxF X_2054 (w.heap.size) [Value.slice none 0 0, Value.slice none 0 0] := by rw [← hX_2055]; exact BoxF.other bxr _ _ (by show ¬ X_2.heap.size + 1 + 1 = w.heap.size; omega)
        replace bxo : BoxF X_2054 (X_2.heap.size + 1) [Value.slice (some ⟨X_2.heap.size, 0, none⟩) q q, Value.slice (some ⟨X_2.heap.size + 1 + 1, 0, none⟩) q q] := by rw [← hX_2055]; exact BoxF.other bxo _ _ (by show ¬ X_2.heap.size + 1 + 1 = X_2.heap.size + 1; omega)
        replace hel : CellsO X_2054 ((X_2.heap.size)) (k * 5) [Value.int .i64 0, Value.bool true, Value.int .i64 0, Value.int .i64 0, Value.int .i64 0] := by rw [← hX_2055]; exact CellsO.other hel _ _ (by show ¬ X_2.heap.size + 1 + 1 = (X_2.heap.size); omega)
        replace hel1 : CellsO X_2054 ((X_2.heap.size + 1 + 1)) (k) [Value.int .i64 (k : Int)] := by rw [← hX_2055]; exact CellsO.set hel1 0 (by simp) _
        have zz_2059 : X_2.heap.size ≤ X_2054.heap.size := by omega
        have Hbxr := hid bxr
        have Hbxo := hid bxo
        have Ho0 := hid o0
        have Ho1 := hid o1
        have Htt_2058 := hid tt_2058
        have Hzz_2059 := hid zz_2059
        clear bxr bxo o0 o1 hel hel1
        go_wp2
        go_roundw
        case rel => exact ⟨k+1, by omega, by go_num, Hbxr.out, Hbxo.out, Ho0.out, Ho1.out, Htt_2058.out, hA0, hA1, hAX, Hzz_2059.out⟩
        case measure => simp [intOf]; omega
      ·
        obtain rfl : k = q := by omega
        have k_2013 : wr.cell? ⟨w.heap.size, 0, none⟩ = some (Value.slice none 0 0) := bxr.1.2 0 (by simp)
        have k_2014 : wr.frozen? ⟨w.heap.size, 0, none⟩ = false := bxr.2 0 (by simp)
        have k_2015 : wr.cell? ⟨w.heap.size, 1, none⟩ = some (Value.slice none 0 0) := bxr.1.2 1 (by simp)
        have k_2016 : wr.frozen? ⟨w.heap.size, 1, none⟩ = false := bxr.2 1 (by simp)
        have k_2017 : wr.cell? ⟨X_2.heap.size + 1, 0, none⟩ = some (Value.slice (some ⟨X_2.heap.size, 0, none⟩) k k) := bxo.1.2 0 (by simp)
        have k_2018 : wr.frozen? ⟨X_2.heap.size + 1, 0, none⟩ = false := bxo.2 0 (by simp)
        have k_2019 : wr.cell? ⟨X_2.heap.size + 1, 1, none⟩ = some (Value.slice (some ⟨X_2.heap.size + 1 + 1, 0, none⟩) k k) := bxo.1.2 1 (by simp)
        have k_2020 : wr.frozen? ⟨X_2.heap.size + 1, 1, none⟩ = false := bxo.2 1 (by simp)
        go_wp2
        refine bodyPost_ret (v := .tuple #[.agg #[Value.slice (some ⟨X_2.heap.size, 0, none⟩) k k, Value.slice (some ⟨X_2.heap.size + 1 + 1, 0, none⟩) k k], .bool true]) ?_ rfl ⟨_, _, by rw [HY.out], ?_⟩
        · simp [results, Try.results37, go_sem, k_2013, k_2014, k_2015, k_2016, k_2017, k_2018, k_2019, k_2020]
        · rw [HY.out]
          rw [mixB_all] at o0
          rw [mixL_all] at o1
          refine ⟨?_, by rw [newB_len]; omega, ?_, by rw [newL_len]; omega, apT, Below.setCell (Below.setCell hB (by show w.heap.size ≤ w.heap.size; omega) _) (by show w.heap.size ≤ w.heap.size; omega) _⟩
          · rw [newB_len]; exact owns_mono (owns_setCell (owns_setCell o0 _ _ (by show w.heap.size < _; omega)) _ _ (by show w.heap.size < _; omega)) (by omega)
          · rw [newL_len]; exact owns_mono (owns_setCell (owns_setCell o1 _ _ (by show w.heap.size < _; omega)) _ _ (by show w.heap.size < _; omega)) (by omega)
  ·
    go_loopw [19] (fun i wr => ∃ (k : Nat), k ≤ q ∧ i = .int .i64 k ∧ NewRel w X_2 wr w.heap.size q k (X_2.heap.size + 1 + 1) (X_2.heap.size + 1) (X_2.heap.size)) (fun i _ => q - (intOf i).toNat)
    case atStart =>
      obtain ⟨r0, r1, r2, rs⟩ := alloc3 X_2 _ _ _
      refine ⟨0, by omega, rfl, new_start (M0 := M0) (M1 := M1) hq24 tt_7 ?_ bx_8 (by first | exact r0 | exact r1 | exact r2) (by first | exact r0 | exact r1 | exact r2) (by first | exact r0 | exact r1 | exact r2) S0 S1 e0 e1 (by omega) (by omega) (by omega) (by omega) (by omega)⟩
      repeat (first | exact Below.refl _ _ | refine Below.drew ?_ | refine Below.alloc ?_ (by simp; try omega) _)
    case round =>
      obtain ⟨k, hk, rfl, bxr, bxo, o0, o1, hB, hA0, hA1, hAX, hS⟩ := hrel
      have hg0 := owns_lt o0
      have hg1 := owns_lt o1
      obtain ⟨hg0, hg0s⟩ := hg0
      obtain ⟨hg1, hg1s⟩ := hg1
      have apT := apart_types o0 o1 (by decide)
      by_cases hlt : k < q
      ·
        have hel := CellsO.ofBlock o0 k (by rw [mixB_len]; exact hlt) zeroB (hid (mixB_get q k hlt)) (mixB_len q k)
        have hel1 := CellsO.ofInts o1 k (by rw [mixL_len]; exact hlt) 0 (hid (by simp [mixL])) (mixL_len q k)
        replace hel : CellsO wr (X_2.heap.size + 1) (k * 5) [Value.int .i64 0, Value.bool false, Value.int .i64 0, Value.int .i64 0, Value.int .i64 0] := hel
        have hi1 : (0 : Int) ≤ (k : Int) := by omega
        have hi2 : (k : Int) < (q : Int) := by omega
        have hne : True := trivial
        have k_2013 : wr.cell? ⟨w.heap.size, 0, none⟩ = some (Value.slice none 0 0) := bxr.1.2 0 (by simp)
        have k_2014 : wr.cell? ⟨w.heap.size, 1, none⟩ = some (Value.slice none 0 0) := bxr.1.2 1 (by simp)
        have k_2015 : wr.cell? ⟨X_2.heap.size + 1 + 1, 0, none⟩ = some (Value.slice (some ⟨X_2.heap.size + 1, 0, none⟩) q q) := bxo.1.2 0 (by simp)
        have k_2016 : wr.frozen? ⟨X_2.heap.size + 1 + 1, 0, none⟩ = false := bxo.2 0 (by simp)
        have k_2017 : wr.cell? ⟨X_2.heap.size + 1 + 1, 1, none⟩ = some (Value.slice (some ⟨X_2.heap.size, 0, none⟩) q q) := bxo.1.2 1 (by simp)
        have k_2018 : wr.frozen? ⟨X_2.heap.size + 1 + 1, 1, none⟩ = false := bxo.2 1 (by simp)
        have k_2019 : wr.cell? ⟨(X_2.heap.size + 1), k * 5, none⟩ = some (Value.int .i64 0) := (hel.2 0 (by simp)).1
        have k_2020 : wr.frozen? ⟨(X_2.heap.size + 1), k * 5, none⟩ = false := (hel.2 0 (by simp)).2
        have k_2021 : wr.cell? ⟨(X_2.heap.size + 1), k * 5 + 1, none⟩ = some (Value.bool false) := (hel.2 1 (by simp)).1
        have k_2022 : wr.frozen? ⟨(X_2.heap.size + 1), k * 5 + 1, none⟩ = false := (hel.2 1 (by simp)).2
        have k_2023 : wr.cell? ⟨(X_2.heap.size + 1), k * 5 + 2, none⟩ = some (Value.int .i64 0) := (hel.2 2 (by simp)).1
        have k_2024 : wr.frozen? ⟨(X_2.heap.size + 1), k * 5 + 2, none⟩ = false := (hel.2 2 (by simp)).2
        have k_2025 : wr.cell? ⟨(X_2.heap.size + 1), k * 5 + 3, none⟩ = some (Value.int .i64 0) := (hel.2 3 (by simp)).1
        have k_2026 : wr.frozen? ⟨(X_2.heap.size + 1), k * 5 + 3, none⟩ = false := (hel.2 3 (by simp)).2
        have k_2027 : wr.cell? ⟨(X_2.heap.size + 1), k * 5 + 4, none⟩ = some (Value.int .i64 0) := (hel.2 4 (by simp)).1
        have k_2028 : wr.frozen? ⟨(X_2.heap.size + 1), k * 5 + 4, none⟩ = false := (hel.2 4 (by simp)).2
        have k_2029 : wr.cell? ⟨(X_2.heap.size), k, none⟩ = some (Value.int .i64 0) := (hel1.2 0 (by simp)).1
        have k_2030 : wr.frozen? ⟨(X_2.heap.size), k, none⟩ = false := (hel1.2 0 (by simp)).2
        obtain ⟨X_2031, hX_2032⟩ : ∃ X, wr.setCell ⟨X_2.heap.size + 1, k * 5 + 1, none⟩ (Value.bool true) = X := ⟨_, rfl⟩
        have gr_2033 : wr.grownBy X_2031 (some (X_2.heap.size + 1)) := by rw [← hX_2032]; exact (World.ownsRow.stored o0 (k * 5 + 1) (Value.bool true)).2
        have zz_2034 : wr.heap.size ≤ X_2031.heap.size := by rw [← hX_2032]; simp [World.setCell]
        have tt_2035 : Below w.heap.size w X_2031 := by rw [← hX_2032]; exact Below.setCell hB (by show w.heap.size ≤ X_2.heap.size + 1; omega) _
        replace o0 := owns_put o0 (k * 5 + 1) (Value.bool true)
        rw [hX_2032] at o0
        replace o1 := World.ownsRow.kept o1 gr_2033 apT.2
        rw [mixB_set q k hlt] at o0
        replace bxr : BoxF X_2031 (w.heap.size) [Value.slice none 0 0, Value.slice none 0 0] := by rw [← hX_2032]; exact BoxF.other bxr _ _ (by show ¬ X_2.heap.size + 1 = w.heap.size; omega)
        replace bxo : BoxF X_2031 (X_2.heap.size + 1 + 1) [Value.slice (some ⟨X_2.heap.size + 1, 0, none⟩) q q, Value.slice (some ⟨X_2.heap.size, 0, none⟩) q q] := by rw [← hX_2032]; exact BoxF.other bxo _ _ (by show ¬ X_2.heap.size + 1 = X_2.heap.size + 1 + 1; omega)
        replace hel : CellsO X_2031 ((X_2.heap.size + 1)) (k * 5) [Value.int .i64 0, Value.bool true, Value.int .i64 0, Value.int .i64 0, Value.int .i64 0] := by rw [← hX_2032]; exact CellsO.set hel 1 (by simp) _
        replace hel1 : CellsO X_2031 ((X_2.heap.size)) (k) [Value.int .i64 0] := by rw [← hX_2032]; exact CellsO.other hel1 _ _ (by show ¬ X_2.heap.size + 1 = (X_2.heap.size); omega)
        have k_2036 : X_2031.cell? ⟨w.heap.size, 0, none⟩ = some (Value.slice none 0 0) := bxr.1.2 0 (by simp)
        have k_2037 : X_2031.cell? ⟨w.heap.size, 1, none⟩ = some (Value.slice none 0 0) := bxr.1.2 1 (by simp)
        have k_2038 : X_2031.cell? ⟨X_2.heap.size + 1 + 1, 0, none⟩ = some (Value.slice (some ⟨X_2.heap.size + 1, 0, none⟩) q q) := bxo.1.2 0 (by simp)
        have k_2039 : X_2031.frozen? ⟨X_2.heap.size + 1 + 1, 0, none⟩ = false := bxo.2 0 (by simp)
        have k_2040 : X_2031.cell? ⟨X_2.heap.size + 1 + 1, 1, none⟩ = some (Value.slice (some ⟨X_2.heap.size, 0, none⟩) q q) := bxo.1.2 1 (by simp)
        have k_2041 : X_2031.frozen? ⟨X_2.heap.size + 1 + 1, 1, none⟩ = false := bxo.2 1 (by simp)
        have k_2042 : X_2031.cell? ⟨(X_2.heap.size + 1), k * 5, none⟩ = some (Value.int .i64 0) := (hel.2 0 (by simp)).1
        have k_2043 : X_2031.frozen? ⟨(X_2.heap.size + 1), k * 5, none⟩ = false := (hel.2 0 (by simp)).2
        have k_2044 : X_2031.cell? ⟨(X_2.heap.size + 1), k * 5 + 1, none⟩ = some (Value.bool true) := (hel.2 1 (by simp)).1
        have k_2045 : X_2031.frozen? ⟨(X_2.heap.size + 1), k * 5 + 1, none⟩ = false := (hel.2 1 (by simp)).2
        have k_2046 : X_2031.cell? ⟨(X_2.heap.size + 1), k * 5 + 2, none⟩ = some (Value.int .i64 0) := (hel.2 2 (by simp)).1
        have k_2047 : X_2031.frozen? ⟨(X_2.heap.size + 1), k * 5 + 2, none⟩ = false := (hel.2 2 (by simp)).2
        have k_2048 : X_2031.cell? ⟨(X_2.heap.size + 1), k * 5 + 3, none⟩ = some (Value.int .i64 0) := (hel.2 3 (by simp)).1
        have k_2049 : X_2031.frozen? ⟨(X_2.heap.size + 1), k * 5 + 3, none⟩ = false := (hel.2 3 (by simp)).2
        have k_2050 : X_2031.cell? ⟨(X_2.heap.size + 1), k * 5 + 4, none⟩ = some (Value.int .i64 0) := (hel.2 4 (by simp)).1
        have k_2051 : X_2031.frozen? ⟨(X_2.heap.size + 1), k * 5 + 4, none⟩ = false := (hel.2 4 (by simp)).2
        have k_2052 : X_2031.cell? ⟨(X_2.heap.size), k, none⟩ = some (Value.int .i64 0) := (hel1.2 0 (by simp)).1
        have k_2053 : X_2031.frozen? ⟨(X_2.heap.size), k, none⟩ = false := (hel1.2 0 (by simp)).2
        obtain ⟨X_2054, hX_2055⟩ : ∃ X, X_2031.setCell ⟨X_2.heap.size, k, none⟩ (Value.int .i64 (k : Int)) = X := ⟨_, rfl⟩
        have gr_2056 : X_2031.grownBy X_2054 (some (X_2.heap.size)) := by rw [← hX_2055]; exact (World.ownsRow.stored o1 (k) (Value.int .i64 (k : Int))).2
        have zz_2057 : X_2031.heap.size ≤ X_2054.heap.size := by rw [← hX_2055]; simp [World.setCell]
        have tt_2058 : Below w.heap.size w X_2054 := by rw [← hX_2055]; exact Below.setCell tt_2035 (by show w.heap.size ≤ X_2.heap.size; omega) _
        replace o0 := World.ownsRow.kept o0 gr_2056 apT.1
        replace o1 := owns_put o1 (k) (Value.int .i64 (k : Int))
        rw [hX_2055] at o1
        rw [mixL_set q k hlt] at o1
        replace bxr : BoxF X_2054 (w.heap.size) [Value.slice none 0 0, Value.slice none 0 0] := by rw [← hX_2055]; exact BoxF.other bxr _ _ (by show ¬ X_2.heap.size = w.heap.size; omega)
        replace bxo : BoxF X_2054 (X_2.heap.size + 1 + 1) [Value.slice (some ⟨X_2.heap.size + 1, 0, none⟩) q q, Value.slice (some ⟨X_2.heap.size, 0, none⟩) q q] := by rw [← hX_2055]; exact BoxF.other bxo _ _ (by show ¬ X_2.heap.size = X_2.heap.size + 1 + 1; omega)
        replace hel : CellsO X_2054 ((X_2.heap.size + 1)) (k * 5) [Value.int .i64 0, Value.bool true, Value.int .i64 0, Value.int .i64 0, Value.int .i64 0] := by rw [← hX_2055]; exact CellsO.other hel _ _ (by show ¬ X_2.heap.size = (X_2.heap.size + 1); omega)
        replace hel1 : CellsO X_2054 ((X_2.heap.size)) (k) [Value.int .i64 (k : Int)] := by rw [← hX_2055]; exact CellsO.set hel1 0 (by simp) _
        have zz_2059 : X_2.heap.size ≤ X_2054.heap.size := by omega
        have Hbxr := hid bxr
        have Hbxo := hid bxo
        have Ho0 := hid o0
        have Ho1 := hid o1
        have Htt_2058 := hid tt_2058
        have Hzz_2059 := hid zz_2059
        clear bxr bxo o0 o1 hel hel1
        go_wp2
        go_roundw
        case rel => exact ⟨k+1, by omega, by go_num, Hbxr.out, Hbxo.out, Ho0.out, Ho1.out, Htt_2058.out, hA0, hA1, hAX, Hzz_2059.out⟩
        case measure => simp [intOf]; omega
      ·
        obtain rfl : k = q := by omega
        have k_2013 : wr.cell? ⟨w.heap.size, 0, none⟩ = some (Value.slice none 0 0) := bxr.1.2 0 (by simp)
        have k_2014 : wr.frozen? ⟨w.heap.size, 0, none⟩ = false := bxr.2 0 (by simp)
        have k_2015 : wr.cell? ⟨w.heap.size, 1, none⟩ = some (Value.slice none 0 0) := bxr.1.2 1 (by simp)
        have k_2016 : wr.frozen? ⟨w.heap.size, 1, none⟩ = false := bxr.2 1 (by simp)
        have k_2017 : wr.cell? ⟨X_2.heap.size + 1 + 1, 0, none⟩ = some (Value.slice (some ⟨X_2.heap.size + 1, 0, none⟩) k k) := bxo.1.2 0 (by simp)
        have k_2018 : wr.frozen? ⟨X_2.heap.size + 1 + 1, 0, none⟩ = false := bxo.2 0 (by simp)
        have k_2019 : wr.cell? ⟨X_2.heap.size + 1 + 1, 1, none⟩ = some (Value.slice (some ⟨X_2.heap.size, 0, none⟩) k k) := bxo.1.2 1 (by simp)
        have k_2020 : wr.frozen? ⟨X_2.heap.size + 1 + 1, 1, none⟩ = false := bxo.2 1 (by simp)
        go_wp2
        refine bodyPost_ret (v := .tuple #[.agg #[Value.slice (some ⟨X_2.heap.size + 1, 0, none⟩) k k, Value.slice (some ⟨X_2.heap.size, 0, none⟩) k k], .bool true]) ?_ rfl ⟨_, _, by rw [HY.out], ?_⟩
        · simp [results, Try.results37, go_sem, k_2013, k_2014, k_2015, k_2016, k_2017, k_2018, k_2019, k_2020]
        · rw [HY.out]
          rw [mixB_all] at o0
          rw [mixL_all] at o1
          refine ⟨?_, by rw [newB_len]; omega, ?_, by rw [newL_len]; omega, apT, Below.setCell (Below.setCell hB (by show w.heap.size ≤ w.heap.size; omega) _) (by show w.heap.size ≤ w.heap.size; omega) _⟩
          · rw [newB_len]; exact owns_mono (owns_setCell (owns_setCell o0 _ _ (by show w.heap.size < _; omega)) _ _ (by show w.heap.size < _; omega)) (by omega)
          · rw [newL_len]; exact owns_mono (owns_setCell (owns_setCell o1 _ _ (by show w.heap.size < _; omega)) _ _ (by show w.heap.size < _; omega)) (by omega)
  ·
    go_loopw [19] (fun i wr => ∃ (k : Nat), k ≤ q ∧ i = .int .i64 k ∧ NewRel w X_2 wr w.heap.size q k (X_2.heap.size + 1) (X_2.heap.size + 1 + 1) (X_2.heap.size)) (fun i _ => q - (intOf i).toNat)
    case atStart =>
      obtain ⟨r0, r1, r2, rs⟩ := alloc3 X_2 _ _ _
      refine ⟨0, by omega, rfl, new_start (M0 := M0) (M1 := M1) hq24 tt_7 ?_ bx_8 (by first | exact r0 | exact r1 | exact r2) (by first | exact r0 | exact r1 | exact r2) (by first | exact r0 | exact r1 | exact r2) S0 S1 e0 e1 (by omega) (by omega) (by omega) (by omega) (by omega)⟩
      repeat (first | exact Below.refl _ _ | refine Below.drew ?_ | refine Below.alloc ?_ (by simp; try omega) _)
    case round =>
      obtain ⟨k, hk, rfl, bxr, bxo, o0, o1, hB, hA0, hA1, hAX, hS⟩ := hrel
      have hg0 := owns_lt o0
      have hg1 := owns_lt o1
      obtain ⟨hg0, hg0s⟩ := hg0
      obtain ⟨hg1, hg1s⟩ := hg1
      have apT := apart_types o0 o1 (by decide)
      by_cases hlt : k < q
      ·
        have hel := CellsO.ofBlock o0 k (by rw [mixB_len]; exact hlt) zeroB (hid (mixB_get q k hlt)) (mixB_len q k)
        have hel1 := CellsO.ofInts o1 k (by rw [mixL_len]; exact hlt) 0 (hid (by simp [mixL])) (mixL_len q k)
        replace hel : CellsO wr (X_2.heap.size + 1 + 1) (k * 5) [Value.int .i64 0, Value.bool false, Value.int .i64 0, Value.int .i64 0, Value.int .i64 0] := hel
        have hi1 : (0 : Int) ≤ (k : Int) := by omega
        have hi2 : (k : Int) < (q : Int) := by omega
        have hne : True := trivial
        have k_2013 : wr.cell? ⟨w.heap.size, 0, none⟩ = some (Value.slice none 0 0) := bxr.1.2 0 (by simp)
        have k_2014 : wr.cell? ⟨w.heap.size, 1, none⟩ = some (Value.slice none 0 0) := bxr.1.2 1 (by simp)
        have k_2015 : wr.cell? ⟨X_2.heap.size + 1, 0, none⟩ = some (Value.slice (some ⟨X_2.heap.size + 1 + 1, 0, none⟩) q q) := bxo.1.2 0 (by simp)
        have k_2016 : wr.frozen? ⟨X_2.heap.size + 1, 0, none⟩ = false := bxo.2 0 (by simp)
        have k_2017 : wr.cell? ⟨X_2.heap.size + 1, 1, none⟩ = some (Value.slice (some ⟨X_2.heap.size, 0, none⟩) q q) := bxo.1.2 1 (by simp)
        have k_2018 : wr.frozen? ⟨X_2.heap.size + 1, 1, none⟩ = false := bxo.2 1 (by simp)
        have k_2019 : wr.cell? ⟨(X_2.heap.size + 1 + 1), k * 5, none⟩ = some (Value.int .i64 0) := (hel.2 0 (by simp)).1
        have k_2020 : wr.frozen? ⟨(X_2.heap.size + 1 + 1), k * 5, none⟩ = false := (hel.2 0 (by simp)).2
        have k_2021 : wr.cell? ⟨(X_2.heap.size + 1 + 1), k * 5 + 1, none⟩ = some (Value.bool false) := (hel.2 1 (by simp)).1
        have k_2022 : wr.frozen? ⟨(X_2.heap.size + 1 + 1), k * 5 + 1, none⟩ = false := (hel.2 1 (by simp)).2
        have k_2023 : wr.cell? ⟨(X_2.heap.size + 1 + 1), k * 5 + 2, none⟩ = some (Value.int .i64 0) := (hel.2 2 (by simp)).1
        have k_2024 : wr.frozen? ⟨(X_2.heap.size + 1 + 1), k * 5 + 2, none⟩ = false := (hel.2 2 (by simp)).2
        have k_2025 : wr.cell? ⟨(X_2.heap.size + 1 + 1), k * 5 + 3, none⟩ = some (Value.int .i64 0) := (hel.2 3 (by simp)).1
        have k_2026 : wr.frozen? ⟨(X_2.heap.size + 1 + 1), k * 5 + 3, none⟩ = false := (hel.2 3 (by simp)).2
        have k_2027 : wr.cell? ⟨(X_2.heap.size + 1 + 1), k * 5 + 4, none⟩ = some (Value.int .i64 0) := (hel.2 4 (by simp)).1
        have k_2028 : wr.frozen? ⟨(X_2.heap.size + 1 + 1), k * 5 + 4, none⟩ = false := (hel.2 4 (by simp)).2
        have k_2029 : wr.cell? ⟨(X_2.heap.size), k, none⟩ = some (Value.int .i64 0) := (hel1.2 0 (by simp)).1
        have k_2030 : wr.frozen? ⟨(X_2.heap.size), k, none⟩ = false := (hel1.2 0 (by simp)).2
        obtain ⟨X_2031, hX_2032⟩ : ∃ X, wr.setCell ⟨X_2.heap.size + 1 + 1, k * 5 + 1, none⟩ (Value.bool true) = X := ⟨_, rfl⟩
        have gr_2033 : wr.grownBy X_2031 (some (X_2.heap.size + 1 + 1)) := by rw [← hX_2032]; exact (World.ownsRow.stored o0 (k * 5 + 1) (Value.bool true)).2
        have zz_2034 : wr.heap.size ≤ X_2031.heap.size := by rw [← hX_2032]; simp [World.setCell]
        have tt_2035 : Below w.heap.size w X_2031 := by rw [← hX_2032]; exact Below.setCell hB (by show w.heap.size ≤ X_2.heap.size + 1 + 1; omega) _
        replace o0 := owns_put o0 (k * 5 + 1) (Value.bool true)
        rw [hX_2032] at o0
        replace o1 := World.ownsRow.kept o1 gr_2033 apT.2
        rw [mixB_set q k hlt] at o0
        replace bxr : BoxF X_2031 (w.heap.size) [Value.slice none 0 0, Value.slice none 0 0] := by rw [← hX_2032]; exact BoxF.other bxr _ _ (by show ¬ X_2.heap.size + 1 + 1 = w.heap.size; omega)
        replace bxo : BoxF X_2031 (X_2.heap.size + 1) [Value.slice (some ⟨X_2.heap.size + 1 + 1, 0, none⟩) q q, Value.slice (some ⟨X_2.heap.size, 0, none⟩) q q] := by rw [← hX_2032]; exact BoxF.other bxo _ _ (by show ¬ X_2.heap.size + 1 + 1 = X_2.heap.size + 1; omega)
        replace hel : CellsO X_2031 ((X_2.heap.size + 1 + 1)) (k * 5) [Value.int .i64 0, Value.bool true, Value.int .i64 0, Value.int .i64 0, Value.int .i64 0] := by rw [← hX_2032]; exact CellsO.set hel 1 (by simp) _
        replace hel1 : CellsO X_2031 ((X_2.heap.size)) (k) [Value.int .i64 0] := by rw [← hX_2032]; exact CellsO.other hel1 _ _ (by show ¬ X_2.heap.size + 1 + 1 = (X_2.heap.size); omega)
        have k_2036 : X_2031.cell? ⟨w.heap.size, 0, none⟩ = some (Value.slice none 0 0) := bxr.1.2 0 (by simp)
        have k_2037 : X_2031.cell? ⟨w.heap.size, 1, none⟩ = some (Value.slice none 0 0) := bxr.1.2 1 (by simp)
        have k_2038 : X_2031.cell? ⟨X_2.heap.size + 1, 0, none⟩ = some (Value.slice (some ⟨X_2.heap.size + 1 + 1, 0, none⟩) q q) := bxo.1.2 0 (by simp)
        have k_2039 : X_2031.frozen? ⟨X_2.heap.size + 1, 0, none⟩ = false := bxo.2 0 (by simp)
        have k_2040 : X_2031.cell? ⟨X_2.heap.size + 1, 1, none⟩ = some (Value.slice (some ⟨X_2.heap.size, 0, none⟩) q q) := bxo.1.2 1 (by simp)
        have k_2041 : X_2031.frozen? ⟨X_2.heap.size + 1, 1, none⟩ = false := bxo.2 1 (by simp)
        have k_2042 : X_2031.cell? ⟨(X_2.heap.size + 1 + 1), k * 5, none⟩ = some (Value.int .i64 0) := (hel.2 0 (by simp)).1
        have k_2043 : X_2031.frozen? ⟨(X_2.heap.size + 1 + 1), k * 5, none⟩ = false := (hel.2 0 (by simp)).2
        have k_2044 : X_2031.cell? ⟨(X_2.heap.size + 1 + 1), k * 5 + 1, none⟩ = some (Value.bool true) := (hel.2 1 (by simp)).1
        have k_2045 : X_2031.frozen? ⟨(X_2.heap.size + 1 + 1), k * 5 + 1, none⟩ = false := (hel.2 1 (by simp)).2
        have k_2046 : X_2031.cell? ⟨(X_2.heap.size + 1 + 1), k * 5 + 2, none⟩ = some (Value.int .i64 0) := (hel.2 2 (by simp)).1
        have k_2047 : X_2031.frozen? ⟨(X_2.heap.size + 1 + 1), k * 5 + 2, none⟩ = false := (hel.2 2 (by simp)).2
        have k_2048 : X_2031.cell? ⟨(X_2.heap.size + 1 + 1), k * 5 + 3, none⟩ = some (Value.int .i64 0) := (hel.2 3 (by simp)).1
        have k_2049 : X_2031.frozen? ⟨(X_2.heap.size + 1 + 1), k * 5 + 3, none⟩ = false := (hel.2 3 (by simp)).2
        have k_2050 : X_2031.cell? ⟨(X_2.heap.size + 1 + 1), k * 5 + 4, none⟩ = some (Value.int .i64 0) := (hel.2 4 (by simp)).1
        have k_2051 : X_2031.frozen? ⟨(X_2.heap.size + 1 + 1), k * 5 + 4, none⟩ = false := (hel.2 4 (by simp)).2
        have k_2052 : X_2031.cell? ⟨(X_2.heap.size), k, none⟩ = some (Value.int .i64 0) := (hel1.2 0 (by simp)).1
        have k_2053 : X_2031.frozen? ⟨(X_2.heap.size), k, none⟩ = false := (hel1.2 0 (by simp)).2
        obtain ⟨X_2054, hX_2055⟩ : ∃ X, X_2031.setCell ⟨X_2.heap.size, k, none⟩ (Value.int .i64 (k : Int)) = X := ⟨_, rfl⟩
        have gr_2056 : X_2031.grownBy X_2054 (some (X_2.heap.size)) := by rw [← hX_2055]; exact (World.ownsRow.stored o1 (k) (Value.int .i64 (k : Int))).2
        have zz_2057 : X_2031.heap.size ≤ X_2054.heap.size := by rw [← hX_2055]; simp [World.setCell]
        have tt_2058 : Below w.heap.size w X_2054 := by rw [← hX_2055]; exact Below.setCell tt_2035 (by show w.heap.size ≤ X_2.heap.size; omega) _
        replace o0 := World.ownsRow.kept o0 gr_2056 apT.1
        replace o1 := owns_put o1 (k) (Value.int .i64 (k : Int))
        rw [hX_2055] at o1
        rw [mixL_set q k hlt] at o1
        replace bxr : BoxF X_2054 (w.heap.size) [Value.slice none 0 0, Value.slice none 0 0] := by rw [← hX_2055]; exact BoxF.other bxr _ _ (by show ¬ X_2.heap.size = w.heap.size; omega)
        replace bxo : BoxF X_2054 (X_2.heap.size + 1) [Value.slice (some ⟨X_2.heap.size + 1 + 1, 0, none⟩) q q, Value.slice (some ⟨X_2.heap.size, 0, none⟩) q q] := by rw [← hX_2055]; exact BoxF.other bxo _ _ (by show ¬ X_2.heap.size = X_2.heap.size + 1; omega)
        replace hel : CellsO X_2054 ((X_2.heap.size + 1 + 1)) (k * 5) [Value.int .i64 0, Value.bool true, Value.int .i64 0, Value.int .i64 0, Value.int .i64 0] := by rw [← hX_2055]; exact CellsO.other hel _ _ (by show ¬ X_2.heap.size = (X_2.heap.size + 1 + 1); omega)
        replace hel1 : CellsO X_2054 ((X_2.heap.size)) (k) [Value.int .i64 (k : Int)] := by rw [← hX_2055]; exact CellsO.set hel1 0 (by simp) _
        have zz_2059 : X_2.heap.size ≤ X_2054.heap.size := by omega
        have Hbxr := hid bxr
        have Hbxo := hid bxo
        have Ho0 := hid o0
        have Ho1 := hid o1
        have Htt_2058 := hid tt_2058
        have Hzz_2059 := hid zz_2059
        clear bxr bxo o0 o1 hel hel1
        go_wp2
        go_roundw
        case rel => exact ⟨k+1, by omega, by go_num, Hbxr.out, Hbxo.out, Ho0.out, Ho1.out, Htt_2058.out, hA0, hA1, hAX, Hzz_2059.out⟩
        case measure => simp [intOf]; omega
      ·
        obtain rfl : k = q := by omega
        have k_2013 : wr.cell? ⟨w.heap.size, 0, none⟩ = some (Value.slice none 0 0) := bxr.1.2 0 (by simp)
        have k_2014 : wr.frozen? ⟨w.heap.size, 0, none⟩ = false := bxr.2 0 (by simp)
        have k_2015 : wr.cell? ⟨w.heap.size, 1, none⟩ = some (Value.slice none 0 0) := bxr.1.2 1 (by simp)
        have k_2016 : wr.frozen? ⟨w.heap.size, 1, none⟩ = false := bxr.2 1 (by simp)
        have k_2017 : wr.cell? ⟨X_2.heap.size + 1, 0, none⟩ = some (Value.slice (some ⟨X_2.heap.size + 1 + 1, 0, none⟩) k k) := bxo.1.2 0 (by simp)
        have k_2018 : wr.frozen? ⟨X_2.heap.size + 1, 0, none⟩ = false := bxo.2 0 (by simp)
        have k_2019 : wr.cell? ⟨X_2.heap.size + 1, 1, none⟩ = some (Value.slice (some ⟨X_2.heap.size, 0, none⟩) k k) := bxo.1.2 1 (by simp)
        have k_2020 : wr.frozen? ⟨X_2.heap.size + 1, 1, none⟩ = false := bxo.2 1 (by simp)
        go_wp2
        refine bodyPost_ret (v := .tuple #[.agg #[Value.slice (some ⟨X_2.heap.size + 1 + 1, 0, none⟩) k k, Value.slice (some ⟨X_2.heap.size, 0, none⟩) k k], .bool true]) ?_ rfl ⟨_, _, by rw [HY.out], ?_⟩
        · simp [results, Try.results37, go_sem, k_2013, k_2014, k_2015, k_2016, k_2017, k_2018, k_2019, k_2020]
        · rw [HY.out]
          rw [mixB_all] at o0
          rw [mixL_all] at o1
          refine ⟨?_, by rw [newB_len]; omega, ?_, by rw [newL_len]; omega, apT, Below.setCell (Below.setCell hB (by show w.heap.size ≤ w.heap.size; omega) _) (by show w.heap.size ≤ w.heap.size; omega) _⟩
          · rw [newB_len]; exact owns_mono (owns_setCell (owns_setCell o0 _ _ (by show w.heap.size < _; omega)) _ _ (by show w.heap.size < _; omega)) (by omega)
          · rw [newL_len]; exact owns_mono (owns_setCell (owns_setCell o1 _ _ (by show w.heap.size < _; omega)) _ _ (by show w.heap.size < _; omega)) (by omega)
  ·
    go_loopw [19] (fun i wr => ∃ (k : Nat), k ≤ q ∧ i = .int .i64 k ∧ NewRel w X_2 wr w.heap.size q k (X_2.heap.size) (X_2.heap.size + 1) (X_2.heap.size + 1 + 1)) (fun i _ => q - (intOf i).toNat)
    case atStart =>
      obtain ⟨r0, r1, r2, rs⟩ := alloc3 X_2 _ _ _
      refine ⟨0, by omega, rfl, new_start (M0 := M0) (M1 := M1) hq24 tt_7 ?_ bx_8 (by first | exact r0 | exact r1 | exact r2) (by first | exact r0 | exact r1 | exact r2) (by first | exact r0 | exact r1 | exact r2) S0 S1 e0 e1 (by omega) (by omega) (by omega) (by omega) (by omega)⟩
      repeat (first | exact Below.refl _ _ | refine Below.drew ?_ | refine Below.alloc ?_ (by simp; try omega) _)
    case round =>
      obtain ⟨k, hk, rfl, bxr, bxo, o0, o1, hB, hA0, hA1, hAX, hS⟩ := hrel
      have hg0 := owns_lt o0
      have hg1 := owns_lt o1
      obtain ⟨hg0, hg0s⟩ := hg0
      obtain ⟨hg1, hg1s⟩ := hg1
      have apT := apart_types o0 o1 (by decide)
      by_cases hlt : k < q
      ·
        have hel := CellsO.ofBlock o0 k (by rw [mixB_len]; exact hlt) zeroB (hid (mixB_get q k hlt)) (mixB_len q k)
        have hel1 := CellsO.ofInts o1 k (by rw [mixL_len]; exact hlt) 0 (hid (by simp [mixL])) (mixL_len q k)
        replace hel : CellsO wr (X_2.heap.size + 1) (k * 5) [Value.int .i64 0, Value.bool false, Value.int .i64 0, Value.int .i64 0, Value.int .i64 0] := hel
        have hi1 : (0 : Int) ≤ (k : Int) := by omega
        have hi2 : (k : Int) < (q : Int) := by omega
        have hne : True := trivial
        have k_2013 : wr.cell? ⟨w.heap.size, 0, none⟩ = some (Value.slice none 0 0) := bxr.1.2 0 (by simp)
        have k_2014 : wr.cell? ⟨w.heap.size, 1, none⟩ = some (Value.slice none 0 0) := bxr.1.2 1 (by simp)
        have k_2015 : wr.cell? ⟨X_2.heap.size, 0, none⟩ = some (Value.slice (some ⟨X_2.heap.size + 1, 0, none⟩) q q) := bxo.1.2 0 (by simp)
        have k_2016 : wr.frozen? ⟨X_2.heap.size, 0, none⟩ = false := bxo.2 0 (by simp)
        have k_2017 : wr.cell? ⟨X_2.heap.size, 1, none⟩ = some (Value.slice (some ⟨X_2.heap.size + 1 + 1, 0, none⟩) q q) := bxo.1.2 1 (by simp)
        have k_2018 : wr.frozen? ⟨X_2.heap.size, 1, none⟩ = false := bxo.2 1 (by simp)
        have k_2019 : wr.cell? ⟨(X_2.heap.size + 1), k * 5, none⟩ = some (Value.int .i64 0) := (hel.2 0 (by simp)).1
        have k_2020 : wr.frozen? ⟨(X_2.heap.size + 1), k * 5, none⟩ = false := (hel.2 0 (by simp)).2
        have k_2021 : wr.cell? ⟨(X_2.heap.size + 1), k * 5 + 1, none⟩ = some (Value.bool false) := (hel.2 1 (by simp)).1
        have k_2022 : wr.frozen? ⟨(X_2.heap.size + 1), k * 5 + 1, none⟩ = false := (hel.2 1 (by simp)).2
        have k_2023 : wr.cell? ⟨(X_2.heap.size + 1), k * 5 + 2, none⟩ = some (Value.int .i64 0) := (hel.2 2 (by simp)).1
        have k_2024 : wr.frozen? ⟨(X_2.heap.size + 1), k * 5 + 2, none⟩ = false := (hel.2 2 (by simp)).2
        have k_2025 : wr.cell? ⟨(X_2.heap.size + 1), k * 5 + 3, none⟩ = some (Value.int .i64 0) := (hel.2 3 (by simp)).1
        have k_2026 : wr.frozen? ⟨(X_2.heap.size + 1), k * 5 + 3, none⟩ = false := (hel.2 3 (by simp)).2
        have k_2027 : wr.cell? ⟨(X_2.heap.size + 1), k * 5 + 4, none⟩ = some (Value.int .i64 0) := (hel.2 4 (by simp)).1
        have k_2028 : wr.frozen? ⟨(X_2.heap.size + 1), k * 5 + 4, none⟩ = false := (hel.2 4 (by simp)).2
        have k_2029 : wr.cell? ⟨(X_2.heap.size + 1 + 1), k, none⟩ = some (Value.int .i64 0) := (hel1.2 0 (by simp)).1
        have k_2030 : wr.frozen? ⟨(X_2.heap.size + 1 + 1), k, none⟩ = false := (hel1.2 0 (by simp)).2
        obtain ⟨X_2031, hX_2032⟩ : ∃ X, wr.setCell ⟨X_2.heap.size + 1, k * 5 + 1, none⟩ (Value.bool true) = X := ⟨_, rfl⟩
        have gr_2033 : wr.grownBy X_2031 (some (X_2.heap.size + 1)) := by rw [← hX_2032]; exact (World.ownsRow.stored o0 (k * 5 + 1) (Value.bool true)).2
        have zz_2034 : wr.heap.size ≤ X_2031.heap.size := by rw [← hX_2032]; simp [World.setCell]
        have tt_2035 : Below w.heap.size w X_2031 := by rw [← hX_2032]; exact Below.setCell hB (by show w.heap.size ≤ X_2.heap.size + 1; omega) _
        replace o0 := owns_put o0 (k * 5 + 1) (Value.bool true)
        rw [hX_2032] at o0
        replace o1 := World.ownsRow.kept o1 gr_2033 apT.2
        rw [mixB_set q k hlt] at o0
        replace bxr : BoxF X_2031 (w.heap.size) [Value.slice none 0 0, Value.slice none 0 0] := by rw [← hX_2032]; exact BoxF.other bxr _ _ (by show ¬ X_2.heap.size + 1 = w.heap.size; omega)
        replace bxo : BoxF X_2031 (X_2.heap.size) [Value.slice (some ⟨X_2.heap.size + 1, 0, none⟩) q q, Value.slice (some ⟨X_2.heap.size + 1 + 1, 0, none⟩) q q] := by rw [← hX_2032]; exact BoxF.other bxo _ _ (by show ¬ X_2.heap.size + 1 = X_2.heap.size; omega)
        replace hel : CellsO X_2031 ((X_2.heap.size + 1)) (k * 5) [Value.int .i64 0, Value.bool true, Value.int .i64 0, Value.int .i64 0, Value.int .i64 0] := by rw [← hX_2032]; exact CellsO.set hel 1 (by simp) _
        replace hel1 : CellsO X_2031 ((X_2.heap.size + 1 + 1)) (k) [Value.int .i64 0] := by rw [← hX_2032]; exact CellsO.other hel1 _ _ (by show ¬ X_2.heap.size + 1 = (X_2.heap.size + 1 + 1); omega)
        have k_2036 : X_2031.cell? ⟨w.heap.size, 0, none⟩ = some (Value.slice none 0 0) := bxr.1.2 0 (by simp)
        have k_2037 : X_2031.cell? ⟨w.heap.size, 1, none⟩ = some (Value.slice none 0 0) := bxr.1.2 1 (by simp)
        have k_2038 : X_2031.cell? ⟨X_2.heap.size, 0, none⟩ = some (Value.slice (some ⟨X_2.heap.size + 1, 0, none⟩) q q) := bxo.1.2 0 (by simp)
        have k_2039 : X_2031.frozen? ⟨X_2.heap.size, 0, none⟩ = false := bxo.2 0 (by simp)
        have k_2040 : X_2031.cell? ⟨X_2.heap.size, 1, none⟩ = some (Value.slice (some ⟨X_2.heap.size + 1 + 1, 0, none⟩) q q) := bxo.1.2 1 (by simp)
        have k_2041 : X_2031.frozen? ⟨X_2.heap.size, 1, none⟩ = false := bxo.2 1 (by simp)
        have k_2042 : X_2031.cell? ⟨(X_2.heap.size + 1), k * 5, none⟩ = some (Value.int .i64 0) := (hel.2 0 (by simp)).1
        have k_2043 : X_2031.frozen? ⟨(X_2.heap.size + 1), k * 5, none⟩ = false := (hel.2 0 (by simp)).2
        have k_2044 : X_2031.cell? ⟨(X_2.heap.size + 1), k * 5 + 1, none⟩ = some (Value.bool true) := (hel.2 1 (by simp)).1
        have k_2045 : X_2031.frozen? ⟨(X_2.heap.size + 1), k * 5 + 1, none⟩ = false := (hel.2 1 (by simp)).2
        have k_2046 : X_2031.cell? ⟨(X_2.heap.size + 1), k * 5 + 2, none⟩ = some (Value.int .i64 0) := (hel.2 2 (by simp)).1
        have k_2047 : X_2031.frozen? ⟨(X_2.heap.size + 1), k * 5 + 2, none⟩ = false := (hel.2 2 (by simp)).2
        have k_2048 : X_2031.cell? ⟨(X_2.heap.size + 1), k * 5 + 3, none⟩ = some (Value.int .i64 0) := (hel.2 3 (by simp)).1
        have k_2049 : X_2031.frozen? ⟨(X_2.heap.size + 1), k * 5 + 3, none⟩ = false := (hel.2 3 (by simp)).2
        have k_2050 : X_2031.cell? ⟨(X_2.heap.size + 1), k * 5 + 4, none⟩ = some (Value.int .i64 0) := (hel.2 4 (by simp)).1
        have k_2051 : X_2031.frozen? ⟨(X_2.heap.size + 1), k * 5 + 4, none⟩ = false := (hel.2 4 (by simp)).2
        have k_2052 : X_2031.cell? ⟨(X_2.heap.size + 1 + 1), k, none⟩ = some (Value.int .i64 0) := (hel1.2 0 (by simp)).1
        have k_2053 : X_2031.frozen? ⟨(X_2.heap.size + 1 + 1), k, none⟩ = false := (hel1.2 0 (by simp)).2
        obtain ⟨X_2054, hX_2055⟩ : ∃ X, X_2031.setCell ⟨X_2.heap.size + 1 + 1, k, none⟩ (Value.int .i64 (k : Int)) = X := ⟨_, rfl⟩
        have gr_2056 : X_2031.grownBy X_2054 (some (X_2.heap.size + 1 + 1)) := by rw [← hX_2055]; exact (World.ownsRow.stored o1 (k) (Value.int .i64 (k : Int))).2
        have zz_2057 : X_2031.heap.size ≤ X_2054.heap.size := by rw [← hX_2055]; simp [World.setCell]
        have tt_2058 : Below w.heap.size w X_2054 := by rw [← hX_2055]; exact Below.setCell tt_2035 (by show w.heap.size ≤ X_2.heap.size + 1 + 1; omega) _
        replace o0 := World.ownsRow.kept o0 gr_2056 apT.1
        replace o1 := owns_put o1 (k) (Value.int .i64 (k : Int))
        rw [hX_2055] at o1
        rw [mixL_set q k hlt] at o1
        replace bxr : BoxF X_2054 (w.heap.size) [Value.slice none 0 0, Value.slice none 0 0] := by rw [← hX_2055]; exact BoxF.other bxr _ _ (by show ¬ X_2.heap.size + 1 + 1 = w.heap.size; omega)
        replace bxo : BoxF X_2054 (X_2.heap.size) [Value.slice (some ⟨X_2.heap.size + 1, 0, none⟩) q q, Value.slice (some ⟨X_2.heap.size + 1 + 1, 0, none⟩) q q] := by rw [← hX_2055]; exact BoxF.other bxo _ _ (by show ¬ X_2.heap.size + 1 + 1 = X_2.heap.size; omega)
        replace hel : CellsO X_2054 ((X_2.heap.size + 1)) (k * 5) [Value.int .i64 0, Value.bool true, Value.int .i64 0, Value.int .i64 0, Value.int .i64 0] := by rw [← hX_2055]; exact CellsO.other hel _ _ (by show ¬ X_2.heap.size + 1 + 1 = (X_2.heap.size + 1); omega)
        replace hel1 : CellsO X_2054 ((X_2.heap.size + 1 + 1)) (k) [Value.int .i64 (k : Int)] := by rw [← hX_2055]; exact CellsO.set hel1 0 (by simp) _
        have zz_2059 : X_2.heap.size ≤ X_2054.heap.size := by omega
        have Hbxr := hid bxr
        have Hbxo := hid bxo
        have Ho0 := hid o0
        have Ho1 := hid o1
        have Htt_2058 := hid tt_2058
        have Hzz_2059 := hid zz_2059
        clear bxr bxo o0 o1 hel hel1
        go_wp2
        go_roundw
        case rel => exact ⟨k+1, by omega, by go_num, Hbxr.out, Hbxo.out, Ho0.out, Ho1.out, Htt_2058.out, hA0, hA1, hAX, Hzz_2059.out⟩
        case measure => simp [intOf]; omega
      ·
        obtain rfl : k = q := by omega
        have k_2013 : wr.cell? ⟨w.heap.size, 0, none⟩ = some (Value.slice none 0 0) := bxr.1.2 0 (by simp)
        have k_2014 : wr.frozen? ⟨w.heap.size, 0, none⟩ = false := bxr.2 0 (by simp)
        have k_2015 : wr.cell? ⟨w.heap.size, 1, none⟩ = some (Value.slice none 0 0) := bxr.1.2 1 (by simp)
        have k_2016 : wr.frozen? ⟨w.heap.size, 1, none⟩ = false := bxr.2 1 (by simp)
        have k_2017 : wr.cell? ⟨X_2.heap.size, 0, none⟩ = some (Value.slice (some ⟨X_2.heap.size + 1, 0, none⟩) k k) := bxo.1.2 0 (by simp)
        have k_2018 : wr.frozen? ⟨X_2.heap.size, 0, none⟩ = false := bxo.2 0 (by simp)
        have k_2019 : wr.cell? ⟨X_2.heap.size, 1, none⟩ = some (Value.slice (some ⟨X_2.heap.size + 1 + 1, 0, none⟩) k k) := bxo.1.2 1 (by simp)
        have k_2020 : wr.frozen? ⟨X_2.heap.size, 1, none⟩ = false := bxo.2 1 (by simp)
        go_wp2
        refine bodyPost_ret (v := .tuple #[.agg #[Value.slice (some ⟨X_2.heap.size + 1, 0, none⟩) k k, Value.slice (some ⟨X_2.heap.size + 1 + 1, 0, none⟩) k k], .bool true]) ?_ rfl ⟨_, _, by rw [HY.out], ?_⟩
        · simp [results, Try.results37, go_sem, k_2013, k_2014, k_2015, k_2016, k_2017, k_2018, k_2019, k_2020]
        · rw [HY.out]
          rw [mixB_all] at o0
          rw [mixL_all] at o1
          refine ⟨?_, by rw [newB_len]; omega, ?_, by rw [newL_len]; omega, apT, Below.setCell (Below.setCell hB (by show w.heap.size ≤ w.heap.size; omega) _) (by show w.heap.size ≤ w.heap.size; omega) _⟩
          · rw [newB_len]; exact owns_mono (owns_setCell (owns_setCell o0 _ _ (by show w.heap.size < _; omega)) _ _ (by show w.heap.size < _; omega)) (by omega)
          · rw [newL_len]; exact owns_mono (owns_setCell (owns_setCell o1 _ _ (by show w.heap.size < _; omega)) _ _ (by show w.heap.size < _; omega)) (by omega)
  ·
    go_loopw [19] (fun i wr => ∃ (k : Nat), k ≤ q ∧ i = .int .i64 k ∧ NewRel w X_2 wr w.heap.size q k (X_2.heap.size) (X_2.heap.size + 1 + 1) (X_2.heap.size + 1)) (fun i _ => q - (intOf i).toNat)
    case atStart =>
      obtain ⟨r0, r1, r2, rs⟩ := alloc3 X_2 _ _ _
      refine ⟨0, by omega, rfl, new_start (M0 := M0) (M1 := M1) hq24 tt_7 ?_ bx_8 (by first | exact r0 | exact r1 | exact r2) (by first | exact r0 | exact r1 | exact r2) (by first | exact r0 | exact r1 | exact r2) S0 S1 e0 e1 (by omega) (by omega) (by omega) (by omega) (by omega)⟩
      repeat (first | exact Below.refl _ _ | refine Below.drew ?_ | refine Below.alloc ?_ (by simp; try omega) _)
    case round =>
      obtain ⟨k, hk, rfl, bxr, bxo, o0, o1, hB, hA0, hA1, hAX, hS⟩ := hrel
      have hg0 := owns_lt o0
      have hg1 := owns_lt o1
      obtain ⟨hg0, hg0s⟩ := hg0
      obtain ⟨hg1, hg1s⟩ := hg1
      have apT := apart_types o0 o1 (by decide)
      by_cases hlt : k < q
      ·
        have hel := CellsO.ofBlock o0 k (by rw [mixB_len]; exact hlt) zeroB (hid (mixB_get q k hlt)) (mixB_len q k)
        have hel1 := CellsO.ofInts o1 k (by rw [mixL_len]; exact hlt) 0 (hid (by simp [mixL])) (mixL_len q k)
        replace hel : CellsO wr (X_2.heap.size + 1 + 1) (k * 5) [Value.int .i64 0, Value.bool false, Value.int .i64 0, Value.int .i64 0, Value.int .i64 0] := hel
        have hi1 : (0 : Int) ≤ (k : Int) := by omega
        have hi2 : (k : Int) < (q : Int) := by omega
        have hne : True := trivial
        have k_2013 : wr.cell? ⟨w.heap.size, 0, none⟩ = some (Value.slice none 0 0) := bxr.1.2 0 (by simp)
        have k_2014 : wr.cell? ⟨w.heap.size, 1, none⟩ = some (Value.slice none 0 0) := bxr.1.2 1 (by simp)
        have k_2015 : wr.cell? ⟨X_2.heap.size, 0, none⟩ = some (Value.slice (some ⟨X_2.heap.size + 1 + 1, 0, none⟩) q q) := bxo.1.2 0 (by simp)
        have k_2016 : wr.frozen? ⟨X_2.heap.size, 0, none⟩ = false := bxo.2 0 (by simp)
        have k_2017 : wr.cell? ⟨X_2.heap.size, 1, none⟩ = some (Value.slice (some ⟨X_2.heap.size + 1, 0, none⟩) q q) := bxo.1.2 1 (by simp)
        have k_2018 : wr.frozen? ⟨X_2.heap.size, 1, none⟩ = false := bxo.2 1 (by simp)
        have k_2019 : wr.cell? ⟨(X_2.heap.size + 1 + 1), k * 5, none⟩ = some (Value.int .i64 0) := (hel.2 0 (by simp)).1
        have k_2020 : wr.frozen? ⟨(X_2.heap.size + 1 + 1), k * 5, none⟩ = false := (hel.2 0 (by simp)).2
        have k_2021 : wr.cell? ⟨(X_2.heap.size + 1 + 1), k * 5 + 1, none⟩ = some (Value.bool false) := (hel.2 1 (by simp)).1
        have k_2022 : wr.frozen? ⟨(X_2.heap.size + 1 + 1), k * 5 + 1, none⟩ = false := (hel.2 1 (by simp)).2
        have k_2023 : wr.cell? ⟨(X_2.heap.size + 1 + 1), k * 5 + 2, none⟩ = some (Value.int .i64 0) := (hel.2 2 (by simp)).1
        have k_2024 : wr.frozen? ⟨(X_2.heap.size + 1 + 1), k * 5 + 2, none⟩ = false := (hel.2 2 (by simp)).2
        have k_2025 : wr.cell? ⟨(X_2.heap.size + 1 + 1), k * 5 + 3, none⟩ = some (Value.int .i64 0) := (hel.2 3 (by simp)).1
        have k_2026 : wr.frozen? ⟨(X_2.heap.size + 1 + 1), k * 5 + 3, none⟩ = false := (hel.2 3 (by simp)).2
        have k_2027 : wr.cell? ⟨(X_2.heap.size + 1 + 1), k * 5 + 4, none⟩ = some (Value.int .i64 0) := (hel.2 4 (by simp)).1
        have k_2028 : wr.frozen? ⟨(X_2.heap.size + 1 + 1), k * 5 + 4, none⟩ = false := (hel.2 4 (by simp)).2
        have k_2029 : wr.cell? ⟨(X_2.heap.size + 1), k, none⟩ = some (Value.int .i64 0) := (hel1.2 0 (by simp)).1
        have k_2030 : wr.frozen? ⟨(X_2.heap.size + 1), k, none⟩ = false := (hel1.2 0 (by simp)).2
        obtain ⟨X_2031, hX_2032⟩ : ∃ X, wr.setCell ⟨X_2.heap.size + 1 + 1, k * 5 + 1, none⟩ (Value.bool true) = X := ⟨_, rfl⟩
        have gr_2033 : wr.grownBy X_2031 (some (X_2.heap.size + 1 + 1)) := by rw [← hX_2032]; exact (World.ownsRow.stored o0 (k * 5 + 1) (Value.bool true)).2
        have zz_2034 : wr.heap.size ≤ X_2031.heap.size := by rw [← hX_2032]; simp [World.setCell]
        have tt_2035 : Below w.heap.size w X_2031 := by rw [← hX_2032]; exact Below.setCell hB (by show w.heap.size ≤ X_2.heap.size + 1 + 1; omega) _
        replace o0 := owns_put o0 (k * 5 + 1) (Value.bool true)
        rw [hX_2032] at o0
        replace o1 := World.ownsRow.kept o1 gr_2033 apT.2
        rw [mixB_set q k hlt] at o0
        replace bxr : BoxF X_2031 (w.heap.size) [Value.slice none 0 0, Value.slice none 0 0] := by rw [← hX_2032]; exact BoxF.other bxr _ _ (by show ¬ X_2.heap.size + 1 + 1 = w.heap.size; omega)
        replace bxo : BoxF X_2031 (X_2.heap.size) [Value.slice (some ⟨X_2.heap.size + 1 + 1, 0, none⟩) q q, Value.slice (some ⟨X_2.heap.size + 1, 0, none⟩) q q] := by rw [← hX_2032]; exact BoxF.other bxo _ _ (by show ¬ X_2.heap.size + 1 + 1 = X_2.heap.size; omega)
        replace hel : CellsO X_2031 ((X_2.heap.size + 1 + 1)) (k * 5) [Value.int .i64 0, Value.bool true, Value.int .i64 0, Value.int .i64 0, Value.int .i64 0] := by rw [← hX_2032]; exact CellsO.set hel 1 (by simp) _
        replace hel1 : CellsO X_2031 ((X_2.heap.size + 1)) (k) [Value.int .i64 0] := by rw [← hX_2032]; exact CellsO.other hel1 _ _ (by show ¬ X_2.heap.size + 1 + 1 = (X_2.heap.size + 1); omega)
        have k_2036 : X_2031.cell? ⟨w.heap.size, 0, none⟩ = some (Value.slice none 0 0) := bxr.1.2 0 (by simp)
        have k_2037 : X_2031.cell? ⟨w.heap.size, 1, none⟩ = some (Value.slice none 0 0) := bxr.1.2 1 (by simp)
        have k_2038 : X_2031.cell? ⟨X_2.heap.size, 0, none⟩ = some (Value.slice (some ⟨X_2.heap.size + 1 + 1, 0, none⟩) q q) := bxo.1.2 0 (by simp)
        have k_2039 : X_2031.frozen? ⟨X_2.heap.size, 0, none⟩ = false := bxo.2 0 (by simp)
        have k_2040 : X_2031.cell? ⟨X_2.heap.size, 1, none⟩ = some (Value.slice (some ⟨X_2.heap.size + 1, 0, none⟩) q q) := bxo.1.2 1 (by simp)
        have k_2041 : X_2031.frozen? ⟨X_2.heap.size, 1, none⟩ = false := bxo.2 1 (by simp)
        have k_2042 : X_2031.cell? ⟨(X_2.heap.size + 1 + 1), k * 5, none⟩ = some (Value.int .i64 0) := (hel.2 0 (by simp)).1
        have k_2043 : X_2031.frozen? ⟨(X_2.heap.size + 1 + 1), k * 5, none⟩ = false := (hel.2 0 (by simp)).2
        have k_2044 : X_2031.cell? ⟨(X_2.heap.size + 1 + 1), k * 5 + 1, none⟩ = some (Value.bool true) := (hel.2 1 (by simp)).1
        have k_2045 : X_2031.frozen? ⟨(X_2.heap.size + 1 + 1), k * 5 + 1, none⟩ = false := (hel.2 1 (by simp)).2
        have k_2046 : X_2031.cell? ⟨(X_2.heap.size + 1 + 1), k * 5 + 2, none⟩ = some (Value.int .i64 0) := (hel.2 2 (by simp)).1
        have k_2047 : X_2031.frozen? ⟨(X_2.heap.size + 1 + 1), k * 5 + 2, none⟩ = false := (hel.2 2 (by simp)).2
        have k_2048 : X_2031.cell? ⟨(X_2.heap.size + 1 + 1), k * 5 + 3, none⟩ = some (Value.int .i64 0) := (hel.2 3 (by simp)).1
        have k_2049 : X_2031.frozen? ⟨(X_2.heap.size + 1 + 1), k * 5 + 3, none⟩ = false := (hel.2 3 (by simp)).2
        have k_2050 : X_2031.cell? ⟨(X_2.heap.size + 1 + 1), k * 5 + 4, none⟩ = some (Value.int .i64 0) := (hel.2 4 (by simp)).1
        have k_2051 : X_2031.frozen? ⟨(X_2.heap.size + 1 + 1), k * 5 + 4, none⟩ = false := (hel.2 4 (by simp)).2
        have k_2052 : X_2031.cell? ⟨(X_2.heap.size + 1), k, none⟩ = some (Value.int .i64 0) := (hel1.2 0 (by simp)).1
        have k_2053 : X_2031.frozen? ⟨(X_2.heap.size + 1), k, none⟩ = false := (hel1.2 0 (by simp)).2
        obtain ⟨X_2054, hX_2055⟩ : ∃ X, X_2031.setCell ⟨X_2.heap.size + 1, k, none⟩ (Value.int .i64 (k : Int)) = X := ⟨_, rfl⟩
        have gr_2056 : X_2031.grownBy X_2054 (some (X_2.heap.size + 1)) := by rw [← hX_2055]; exact (World.ownsRow.stored o1 (k) (Value.int .i64 (k : Int))).2
        have zz_2057 : X_2031.heap.size ≤ X_2054.heap.size := by rw [← hX_2055]; simp [World.setCell]
        have tt_2058 : Below w.heap.size w X_2054 := by rw [← hX_2055]; exact Below.setCell tt_2035 (by show w.heap.size ≤ X_2.heap.size + 1; omega) _
        replace o0 := World.ownsRow.kept o0 gr_2056 apT.1
        replace o1 := owns_put o1 (k) (Value.int .i64 (k : Int))
        rw [hX_2055] at o1
        rw [mixL_set q k hlt] at o1
        replace bxr : BoxF X_2054 (w.heap.size) [Value.slice none 0 0, Value.slice none 0 0] := by rw [← hX_2055]; exact BoxF.other bxr _ _ (by show ¬ X_2.heap.size + 1 = w.heap.size; omega)
        replace bxo : BoxF X_2054 (X_2.heap.size) [Value.slice (some ⟨X_2.heap.size + 1 + 1, 0, none⟩) q q, Value.slice (some ⟨X_2.heap.size + 1, 0, none⟩) q q] := by rw [← hX_2055]; exact BoxF.other bxo _ _ (by show ¬ X_2.heap.size + 1 = X_2.heap.size; omega)
        replace hel : CellsO X_2054 ((X_2.heap.size + 1 + 1)) (k * 5) [Value.int .i64 0, Value.bool true, Value.int .i64 0, Value.int .i64 0, Value.int .i64 0] := by rw [← hX_2055]; exact CellsO.other hel _ _ (by show ¬ X_2.heap.size + 1 = (X_2.heap.size + 1 + 1); omega)
        replace hel1 : CellsO X_2054 ((X_2.heap.size + 1)) (k) [Value.int .i64 (k : Int)] := by rw [← hX_2055]; exact CellsO.set hel1 0 (by simp) _
        have zz_2059 : X_2.heap.size ≤ X_2054.heap.size := by omega
        have Hbxr := hid bxr
        have Hbxo := hid bxo
        have Ho0 := hid o0
        have Ho1 := hid o1
        have Htt_2058 := hid tt_2058
        have Hzz_2059 := hid zz_2059
        clear bxr bxo o0 o1 hel hel1
        go_wp2
        go_roundw
        case rel => exact ⟨k+1, by omega, by go_num, Hbxr.out, Hbxo.out, Ho0.out, Ho1.out, Htt_2058.out, hA0, hA1, hAX, Hzz_2059.out⟩
        case measure => simp [intOf]; omega
      ·
        obtain rfl : k = q := by omega
        have k_2013 : wr.cell? ⟨w.heap.size, 0, none⟩ = some (Value.slice none 0 0) := bxr.1.2 0 (by simp)
        have k_2014 : wr.frozen? ⟨w.heap.size, 0, none⟩ = false := bxr.2 0 (by simp)
        have k_2015 : wr.cell? ⟨w.heap.size, 1, none⟩ = some (Value.slice none 0 0) := bxr.1.2 1 (by simp)
        have k_2016 : wr.frozen? ⟨w.heap.size, 1, none⟩ = false := bxr.2 1 (by simp)
        have k_2017 : wr.cell? ⟨X_2.heap.size, 0, none⟩ = some (Value.slice (some ⟨X_2.heap.size + 1 + 1, 0, none⟩) k k) := bxo.1.2 0 (by simp)
        have k_2018 : wr.frozen? ⟨X_2.heap.size, 0, none⟩ = false := bxo.2 0 (by simp)
        have k_2019 : wr.cell? ⟨X_2.heap.size, 1, none⟩ = some (Value.slice (some ⟨X_2.heap.size + 1, 0, none⟩) k k) := bxo.1.2 1 (by simp)
        have k_2020 : wr.frozen? ⟨X_2.heap.size, 1, none⟩ = false := bxo.2 1 (by simp)
        go_wp2
        refine bodyPost_ret (v := .tuple #[.agg #[Value.slice (some ⟨X_2.heap.size + 1 + 1, 0, none⟩) k k, Value.slice (some ⟨X_2.heap.size + 1, 0, none⟩) k k], .bool true]) ?_ rfl ⟨_, _, by rw [HY.out], ?_⟩
        · simp [results, Try.results37, go_sem, k_2013, k_2014, k_2015, k_2016, k_2017, k_2018, k_2019, k_2020]
        · rw [HY.out]
          rw [mixB_all] at o0
          rw [mixL_all] at o1
          refine ⟨?_, by rw [newB_len]; omega, ?_, by rw [newL_len]; omega, apT, Below.setCell (Below.setCell hB (by show w.heap.size ≤ w.heap.size; omega) _) (by show w.heap.size ≤ w.heap.size; omega) _⟩
          · rw [newB_len]; exact owns_mono (owns_setCell (owns_setCell o0 _ _ (by show w.heap.size < _; omega)) _ _ (by show w.heap.size < _; omega)) (by omega)
          · rw [newL_len]; exact owns_mono (owns_setCell (owns_setCell o1 _ _ (by show w.heap.size < _; omega)) _ _ (by show w.heap.size < _; omega)) (by omega)
end Go.Proofs.Ytdnfphpeleakcaa
