/- Chapter 9's program: ReadProg. -/
import Derived.Test.YtikiaffgjpddeaaDoorI9o
import Derived.Test.YtikiaffgjpddeaaDoorS9r
namespace Go.Proofs.YtikiaffgjpddeaaDoor
set_option maxRecDepth 100000
open Go.RowKit Go.Proofs Go.Own
open Go Go.BigFrame Go.Shelf
set_option linter.unusedVariables false
set_option linter.unusedSimpArgs false
set_option maxHeartbeats 8000000 in
theorem impl_ReadProg0 (s : ByteArray) (w : World) (hv : Env w) :
    Calls Tryd.prog 11 #[.string s] w fun e w' => ReadR w.heap.size e w' (readC s.data.toList) ∧ Below w.heap.size w w' := by
  obtain ⟨i0, hi, hz0, hz1, hz2⟩ := info_parts infoInstr
  have hlen : s.data.toList.length = s.size := rfl
  by_cases s9 : (900 : Int) < (s.size : Int)
  · have Hy := hid (show readC s.data.toList = ([], 0, false) by unfold readC; rw [if_pos (by omega)])
    go_enter Tryd.func11, Tryd.ntmps11
    go_wp2
    go_ret3
    exact ⟨readR_of Hy.out rfl (World.ownsRow_nil _ _ _ _), Below.refl _ _⟩
  have Hy := hid (show readC s.data.toList = readFrom (((partsL 10 s.data.toList).1.length : Int) + if (partsL 10 s.data.toList).2 = [] then 0 else 1) (partsL 10 s.data.toList).2 (partsL 10 s.data.toList).1 0 [] by unfold readC; rw [if_neg (by omega)])
  have hsum := partsL_sum 10 s.data.toList s.size (Nat.le_refl _)
  have hmem := partsL_mem 10 s.data.toList s.size (Nat.le_refl _)
  rw [show s.data.toList.take s.size = s.data.toList from List.take_of_length_le (Nat.le_refl _)] at hsum hmem
  go_enter Tryd.func11, Tryd.ntmps11
  go_wp2_with fail
  refine (impl_parted s 10 (by decide) _ (by omega)).mono ?_
  rintro e w2 ⟨lv, rfl, ol, b2⟩
  obtain ⟨LS, hLS⟩ : ∃ LS, (partsL 10 s.data.toList).1 = LS := ⟨_, rfl⟩
  obtain ⟨rest, hrest⟩ : ∃ r, (partsL 10 s.data.toList).2 = r := ⟨_, rfl⟩
  rw [hLS] at ol hsum hmem Hy
  rw [hrest] at ol hsum Hy
  obtain ⟨nA, hnA⟩ : ∃ nA : Int, (LS.length : Int) + (if rest = [] then 0 else 1) = nA := ⟨_, rfl⟩
  rw [hnA] at Hy
  have HnA := hid hnA
  have hnb : 0 ≤ nA ∧ nA ≤ 901 := by rw [← hnA]; split <;> omega
  have hmem2 := hid (show ∀ l ∈ LS, l.length ≤ 900 from fun l hl => by have := hmem l hl; omega)
  have hls9 : LS.length ≤ 900 := by omega
  have hrl : rest.length ≤ 900 := by omega
  clear hmem hsum hnA hrest hLS hlen
  rw [List.length_append, List.length_singleton] at ol
  obtain ⟨g, cap, rfl, hc1, hc2, hg1, hg2, hcell, hfr⟩ := owns_at ol (by omega)
  have cL : w2.cell? ⟨g, LS.length, none⟩ = some (.string (BA rest)) := by rw [hcell LS.length (by omega)]; simp [tS]
  have cK := hid (show ∀ k, (h : k < LS.length) → w2.cell? ⟨g, k, none⟩ = some (.string (BA LS[k])) from fun k h => by rw [hcell k (by omega), List.map_append, List.getElem?_append_left (by simpa using h), List.getElem?_map, List.getElem?_eq_getElem h]; rfl)
  have hre := eqS rest []
  rw [show (BA ([] : List UInt8)).toList = [] from by rw [ByteArray.toList_eq]; rfl] at hre
  obtain ⟨R, hR⟩ : ∃ R, BA rest = R := ⟨_, rfl⟩
  rw [hR] at hre cL
  have hw1 : IntKind.i64.wrap (LS.length : Int) = (LS.length : Int) := IntWalk.i64_in _ (by omega)
  have i1 : (LS.length : Int) < (LS.length : Int) + 1 := by omega
  have i2 : (0 : Int) ≤ (LS.length : Int) := by omega
  have i3 : (LS.length : Int) ≤ (cap : Int) := by omega
  have i4 : LS.length < LS.length + 1 := by omega
  have i5 : LS.length ≤ cap := by omega
  have HR := hid hR
  clear hcell hfr ol hR
  go_upto_if 24 with fail
  go_cut [5] from 20 (fun p5 wx => ∃ M : Nat, p5 = .slice (some ⟨g, 0, none⟩) M cap ∧ (M : Int) = nA ∧ wx = w2)
  case first =>
    by_cases hr : rest = []
    · have e1 : decide (rest = []) = true := decide_eq_true hr
      have e2 := hid (show (LS.length : Int) = nA by rw [← HnA.out, if_pos hr]; omega)
      clear hr
      rw [e1]
      go_wp2
      all_goals go_meet
      all_goals exact ⟨LS.length, rfl, e2.out, rfl⟩
    · have e1 : decide (rest = []) = false := decide_eq_false hr
      have e2 := hid (show ((LS.length + 1 : Nat) : Int) = nA by rw [← HnA.out, if_neg hr]; omega)
      clear hr
      rw [e1]
      go_wp2
      all_goals go_meet
      all_goals exact ⟨LS.length + 1, rfl, e2.out, rfl⟩
  case rest =>
  obtain ⟨M, rfl, hM, rfl⟩ := hcut
  have hM63 : M ≤ 901 := by omega
  have oN : wc.ownsRow wc.heap.size 37 3 (.slice none 0 0) 0 [] := World.ownsRow_nil _ _ _ _
  have Hv : Env wc := env_below hv b2
  go_wp2
  go_loopw [7, 30] (fun o i wr => ∃ (k : Nat) (O : List Instr), k ≤ LS.length ∧ i = .int .i64 k ∧ O.length = k ∧ k ≤ 30 ∧ Hid (readFrom nA rest LS 0 [] = readFrom nA rest (LS.drop k) k O) ∧ wr.ownsRow wc.heap.size 37 3 o k (O.flatMap Instr.enc) ∧ Below wc.heap.size wc wr) (fun _ i _ => M - (intOf i).toNat)
  case atStart => exact ⟨0, [], by omega, rfl, rfl, by omega, hid rfl, oN, Below.refl _ _⟩
  case round =>
    clear oN
    obtain ⟨k, O, hk, rfl, hO, hk30, hS, o, hB⟩ := hrel
    obtain ⟨wk, hwk⟩ : ∃ X, X = wr := ⟨_, rfl⟩
    subst hwk
    have hsz := hB.size
    have Hvk : Env wk := env_below Hv hB
    have hBw := hid (b2.trans (hB.mono b2.size))
    by_cases hlt : k < M
    · by_cases hlk : k < LS.length
      · have ck := (hB.cell (p := ⟨g, k, none⟩) hg2).trans (cK.out k hlk)
        have hl9 := hmem2.out LS[k] (List.getElem_mem hlk)
        obtain ⟨l, hl⟩ : ∃ l, LS[k] = l := ⟨_, rfl⟩
        rw [hl] at ck hl9
        have Hl := hid hl
        have HrR := hid (show readC s.data.toList = readFrom nA rest (LS.drop k) k O from Hy.out.trans hS.out)
        clear hl
        go_wp2_with fail
        refine (impl_instrOf l nA _ hl9 (by omega) Hvk).mono ?_
        rintro e w3 ⟨i, b, rfl, hRd, b3⟩
        have B3 := hid (hB.trans (b3.mono hsz))
        have o3 := owns_below o b3
        obtain ⟨V, hV⟩ : ∃ X, w3.alloc (.cells #[.int .i64 i.op_, .int .i64 i.a_, .int .i64 i.b_] 37) = X := ⟨_, rfl⟩
        have bxV : BoxF V w3.heap.size [.int .i64 i.op_, .int .i64 i.a_, .int .i64 i.b_] := by rw [← hV]; exact BoxF.alloc _ _ _
        have bV : Below w3.heap.size w3 V := by rw [← hV]; exact (Below.refl _ _).alloc (Nat.le_refl _) _
        have oV := owns_below o3 bV
        have BV := hid (B3.out.trans (bV.mono B3.out.size))
        have v0 : V.cell? ⟨w3.heap.size, 0, none⟩ = some (.int .i64 i.op_) := bxV.1.2 0 (by simp)
        have v1 : V.cell? ⟨w3.heap.size, 1, none⟩ = some (.int .i64 i.a_) := bxV.1.2 1 (by simp)
        have v2 : V.cell? ⟨w3.heap.size, 2, none⟩ = some (.int .i64 i.b_) := bxV.1.2 2 (by simp)
        have HV := hid hV
        have gL : ((k : Int) == (LS.length : Int)) = false := beq_eq_false_iff_ne.mpr (by omega)
        clear hV bxV o3 b3 bV
        cases b with
        | false =>
          have Hn := hid (show readC s.data.toList = ([], (k : Int), false) by
            rw [HrR.out]
            by_cases k30 : k = 30
            · exact readFrom_30 hlk k30
            · exact readFrom_no hlk (by rw [Hl.out, hRd.out]; rfl))
          go_wp2_with fail
          rw [HV.out]
          go_wp2
          go_ret3
          exact ⟨readR_of Hn.out rfl (World.ownsRow_nil _ _ _ _), b2.trans (BV.out.mono b2.size)⟩
        | true =>
          by_cases k30 : k = 30
          · have Hn := hid (show readC s.data.toList = ([], (k : Int), false) by rw [HrR.out]; exact readFrom_30 hlk k30)
            have g30 : ((k : Int) == 30) = true := by rw [k30]; rfl
            clear k30
            go_wp2_with fail
            rw [HV.out]
            go_wp2
            go_ret3
            exact ⟨readR_of Hn.out rfl (World.ownsRow_nil _ _ _ _), b2.trans (BV.out.mono b2.size)⟩
          · have g30 : ((k : Int) == 30) = false := beq_eq_false_iff_ne.mpr (by omega)
            have Hst := hid (hS.out.trans (readFrom_step hlk k30 (by rw [Hl.out, hRd.out]; rfl)))
            have oA := World.ownsRow.alloc oV (.cells #[.int .i64 i.op_, .int .i64 i.a_, .int .i64 i.b_] 37)
            have bA := hid (BV.out.alloc BV.out.size (.cells #[.int .i64 i.op_, .int .i64 i.a_, .int .i64 i.b_] 37))
            have hszV := B3.out.size
            have hE9 := HV.out
            subst hE9
            clear HV
            have hlit := owns_litN (w3.alloc (.cells #[.int .i64 i.op_, .int .i64 i.a_, .int .i64 i.b_] 37)) 37 3 1 #[.int .i64 i.op_, .int .i64 i.a_, .int .i64 i.b_] 0 (Nat.zero_le _) rfl (by decide)
            rw [show (w3.alloc (.cells #[.int .i64 i.op_, .int .i64 i.a_, .int .i64 i.b_] 37)).heap.size = w3.heap.size + 1 by simp] at hlit
            go_wp2_with (at_builtin; refine wpList_append_flat rfl _ _ 26 rfl wc.heap.size 37 i0 (.agg #[.int .i64 0, .int .i64 0, .int .i64 0]) 3 24 Tryd.underlying26 hi hz0 hz1 hz2 rfl (by decide) _ k _ rfl oA _ 1 [.int .i64 i.op_, .int .i64 i.a_, .int .i64 i.b_] rfl (Flat.of_owns hlit) (by intro c hc; simp at hc; rcases hc with rfl | rfl | rfl <;> rfl) (by unfold maxLen; omega) (by omega) (by simp; omega) ?_)
            intro v9 w9 o9 g9
            have b9 := below_of_mark oA g9 (Nat.le_refl _) (by simp; omega)
            have hB9 := hid (bA.out.trans b9)
            go_wp2
            go_roundw
            case rel => exact ⟨k + 1, O ++ [i], by omega, by go_num, by simp; omega, by omega, Hst, by rw [List.flatMap_append]; exact o9, hB9.out⟩
            case measure => simp [intOf]; omega
      · have hkL : k = LS.length := by omega
        have hrn : rest ≠ [] := fun e => by
          have h9 := HnA.out
          rw [if_pos e] at h9
          omega
        have Hn := hid (show readC s.data.toList = ([], (k : Int), false) by
          rw [Hy.out, hS.out, readFrom_end (by omega), if_neg hrn])
        have ck : wk.cell? ⟨g, k, none⟩ = some (.string R) := by rw [hkL]; exact (hB.cell (p := ⟨g, LS.length, none⟩) hg2).trans cL
        have gL : ((k : Int) == (LS.length : Int)) = true := by rw [hkL]; simp
        clear hkL hrn
        go_wp2_with fail
        rw [← HR.out]
        refine (impl_instrOf rest nA _ hrl (by omega) Hvk).mono ?_
        rintro e w3 ⟨i, b, rfl, hRd, b3⟩
        have B3 := hid (hB.trans (b3.mono hsz))
        cases b
        all_goals go_wp2
        all_goals go_ret3
        all_goals exact ⟨readR_of Hn.out rfl (World.ownsRow_nil _ _ _ _), b2.trans ((B3.out.alloc B3.out.size _).mono b2.size)⟩
    · have hkL : k = LS.length ∧ rest = [] := by
        have h9 := HnA.out
        by_cases hr : rest = []
        · rw [if_pos hr] at h9; exact ⟨by omega, hr⟩
        · rw [if_neg hr] at h9; omega
      have Hn := hid (show readC s.data.toList = (O, -1, true) by
        rw [Hy.out, hS.out, readFrom_end (by omega), if_pos hkL.2])
      clear hkL
      go_wp2
      go_ret3
      exact ⟨readR_of Hn.out rfl (by rw [hO]; exact owns_mono o b2.size), hBw.out⟩
end Go.Proofs.YtikiaffgjpddeaaDoor
