/- Chapter 9's model: a text's words and lines. -/
import Derived.Test.YtikiaffgjpddeaaDoorS9n
import Derived.Test.YtikiaffgjpddeaaDoorBx
import Derived.Test.YtikiaffgjpddeaaDoorExt
namespace Go.Proofs.YtikiaffgjpddeaaDoor
set_option maxRecDepth 100000
open Go.RowKit Go.Proofs Go.Own
set_option linter.unusedVariables false
set_option linter.unusedSimpArgs false
def tS (l : List UInt8) : Value := .string (BA l)
/-- A list of texts read. -/
def Strs (w : World) (v : Value) (xs : List (List UInt8)) : Prop := Flat w v xs.length 1 (xs.map tS)
theorem Strs.open {w : World} {v : Value} {xs : List (List UInt8)} (h : Strs w v xs) : ∃ a cap, v = .slice a xs.length cap ∧ xs.length ≤ cap ∧ cap ≤ 9223372036854775807 ∧
    ∀ k, (h : k < xs.length) → ∃ b off, a = some ⟨b, off, none⟩ ∧ b < w.heap.size ∧ w.cell? ⟨b, off + k, none⟩ = some (.string (BA xs[k])) := by
  obtain ⟨hl, a, cap, e, h1, h2, h0, h3⟩ := h
  refine ⟨a, cap, e, h1, h2, fun k hk => ?_⟩
  rcases h3 with h3 | ⟨b, off, ha, hs, hc⟩
  · omega
  · refine ⟨b, off, ha, hs, ?_⟩
    rw [hc k (by simpa using hk)]
    simp [tS]
theorem infoStr : (Tryd.prog.info? 9).map (fun i => (i.zero, i.size, i.bytes)) = some (some (.string ByteArray.empty), 1, 16) := by kernel_rfl
theorem oneCell_S (xs : List (List UInt8)) : ∀ c ∈ xs.map tS, c.oneCell' = true := by
  intro c hc
  obtain ⟨l, _, rfl⟩ := List.mem_map.1 hc
  rfl
theorem eqS (a b : List UInt8) : ((BA a).toList == (BA b).toList) = decide (a = b) := by
  rw [ByteArray.toList_eq, ByteArray.toList_eq, BA_data, BA_data]
  by_cases h : a = b
  · rw [decide_eq_true h]; simpa using h
  · rw [decide_eq_false h]; simpa using h
theorem wordsL_pos (l : List UInt8) : ∃ a b, wordsL l = a ++ [b] := ⟨_, _, rfl⟩
theorem partsL_take {m : UInt8} {l : List UInt8} {k : Nat} (h : k < l.length) : partsL m (l.take (k+1)) = addP m (partsL m (l.take k)) l[k] := by
  rw [List.take_succ_eq_append_getElem h, partsL_snoc]
theorem wordsL_blank {l : List UInt8} {k : Nat} (h : k < l.length) (hc : l[k] = 32) : wordsL (l.take (k+1)) = wordsL (l.take k) ++ [[]] := by
  unfold wordsL; rw [partsL_take h]; unfold addP; rw [if_pos hc]
theorem wordsL_char {l : List UInt8} {k : Nat} (h : k < l.length) (hc : l[k] ≠ 32) {a : List (List UInt8)} {b : List UInt8} (e : wordsL (l.take k) = a ++ [b]) : wordsL (l.take (k+1)) = a ++ [b ++ [l[k]]] := by
  unfold wordsL at e ⊢
  rw [partsL_take h]; unfold addP; rw [if_neg hc]
  obtain ⟨e1, e2⟩ := List.append_inj' e rfl
  simp only
  rw [e1, (List.cons.inj e2).1]
theorem set_last (a : List (List UInt8)) (b c : List UInt8) : ((a ++ [b]).map tS).set a.length (tS c) = (a ++ [c]).map tS := by
  simp
theorem partsL_sum (m : UInt8) : ∀ (l : List UInt8) (k : Nat), k ≤ l.length → (partsL m (l.take k)).1.length ≤ k ∧ (partsL m (l.take k)).2.length ≤ k
  | l, 0, _ => by simp [partsL]
  | l, k + 1, h => by
    have ih := partsL_sum m l k (by omega)
    rw [partsL_take (by omega)]
    unfold addP; split <;> simp <;> omega
theorem partsL_mem (m : UInt8) : ∀ (L : List UInt8) (k : Nat), k ≤ L.length → ∀ l ∈ (partsL m (L.take k)).1, l.length ≤ k
  | L, 0, _ => by simp [partsL]
  | L, k + 1, h => by
    have ih := partsL_mem m L k (by omega)
    have h2 := (partsL_sum m L k (by omega)).2
    rw [partsL_take (by omega)]
    unfold addP; split
    · intro l hl
      simp only [List.mem_append, List.mem_singleton] at hl
      rcases hl with hl | rfl
      · have := ih l hl; omega
      · omega
    · intro l hl
      have := ih l hl; omega
theorem wordsL_mem (l : List UInt8) : ∀ p ∈ wordsL l, p.length ≤ l.length := by
  have h1 := partsL_mem 32 l l.length (Nat.le_refl _)
  have h2 := (partsL_sum 32 l l.length (Nat.le_refl _)).2
  rw [List.take_of_length_le (Nat.le_refl _)] at h1 h2
  intro p hp
  unfold wordsL at hp
  rcases List.mem_append.1 hp with h | h
  · exact h1 p h
  · rw [List.mem_singleton.1 h]; exact h2
theorem byte32 (c : UInt8) : ((c.toNat : Int) == 32) = decide (c = 32) := by
  by_cases h : c = 32
  · subst h; rfl
  · rw [decide_eq_false h]
    exact beq_eq_false_iff_ne.mpr (fun e => h (UInt8.toNat_inj.1 (by have : c.toNat = 32 := by omega
                                                                     exact this)))
set_option maxHeartbeats 8000000 in
theorem spec_l1Words (s : ByteArray) (w : World) (hs : s.size ≤ 1000) :
    Calls Tryd.prog 21 #[.string s] w fun e w' => ∃ v : Value, e = .returned v ∧ w'.ownsRow w.heap.size 9 1 v (wordsL s.data.toList).length ((wordsL s.data.toList).map tS) ∧ Below w.heap.size w w' := by
  obtain ⟨i0, hi, hz0, hz1, hz2⟩ := info_parts infoStr
  obtain ⟨L, hL⟩ : ∃ L, s.data.toList = L := ⟨_, rfl⟩
  have hLs : L.length = s.size := by rw [← hL]; rfl
  have HL := hid hL
  rw [hL]
  clear hL
  obtain ⟨W1, hW1⟩ : ∃ X, w.alloc (.cells #[.string ⟨#[]⟩] 9) = X := ⟨_, rfl⟩
  have hB1 : Below w.heap.size w W1 := by rw [← hW1]; exact (Below.refl _ _).alloc (Nat.le_refl _) _
  have o1 : W1.ownsRow w.heap.size 9 1 (.slice (some ⟨w.heap.size, 0, none⟩) 1 1) 1 [.string ⟨#[]⟩] := by rw [← hW1]; exact owns_lit1 w 9 _ _ (Nat.le_refl _)
  have HW1 := hid hW1
  clear hW1
  go_enter Tryd.func21, Tryd.ntmps21
  go_wp2_with fail
  rw [HW1.out]
  go_loopw [3, 4] (fun o i wr => ∃ k : Nat, k ≤ s.size ∧ i = .int .i64 k ∧ wr.ownsRow w.heap.size 9 1 o (wordsL (L.take k)).length ((wordsL (L.take k)).map tS) ∧ Below w.heap.size w wr) (fun _ i _ => s.size - (intOf i).toNat)
  case atStart => exact ⟨0, by omega, rfl, by simpa [wordsL, partsL, tS, BA] using o1, hB1⟩
  case round =>
    clear o1 hB1 HW1
    obtain ⟨k, hk, rfl, o, hB⟩ := hrel
    have hsz := hB.size
    by_cases hlt : k < s.size
    · have hlt' : (k : Int) < (s.size : Int) := by omega
      have hkl : k < L.length := by omega
      have bk := bt_eq hlt
      have hbl := bt_list s k (by rw [HL.out]; exact hkl)
      simp only [HL.out] at hbl
      have hsum := partsL_sum 32 L k (by omega)
      by_cases hc : L[k] = 32
      · have h32 : ((bt s k : Int) == 32) = true := by rw [← hbl, byte32, decide_eq_true hc]
        have hst := hid (wordsL_blank hkl hc)
        have oA := World.ownsRow.alloc o (.cells #[.string ⟨#[]⟩] 9)
        have hwl : (wordsL (L.take k)).length ≤ k + 1 := by unfold wordsL; simp; omega
        clear hbl hsum
        go_wp2_with (at_builtin; refine wpList_append_flat rfl _ _ 41 rfl w.heap.size 9 i0 (.string ByteArray.empty) 1 16 Tryd.underlying41 hi hz0 hz1 hz2 rfl (by decide) _ _ _ rfl oA _ 1 [.string ⟨#[]⟩] rfl (Flat.of_owns (owns_lit1 wr 9 (.string ⟨#[]⟩) 0 (Nat.zero_le _))) (by intro c hc; simp at hc; subst hc; rfl) (by unfold maxLen; omega) (by omega) (by simp; omega) ?_)
        intro v2 w2 o2 g2
        have b2 := below_of_mark oA g2 (Nat.le_refl _) (by simp; omega)
        have hB2 : Below w.heap.size w w2 := Below.trans (hB.alloc hsz _) b2
        go_wp2
        go_roundw
        case rel => exact ⟨k+1, by omega, by go_num, by rw [hst.out, List.length_append, List.map_append]; exact o2, hB2⟩
        case measure => simp [intOf]; omega
      · have h32 : ((bt s k : Int) == 32) = false := by rw [← hbl, byte32, decide_eq_false hc]
        obtain ⟨a, b, e⟩ := wordsL_pos (L.take k)
        have hst := hid (wordsL_char hkl hc e)
        have hbz : b.length ≤ k := by
          unfold wordsL at e
          rw [← (List.cons.inj (List.append_inj' e rfl).2).1]
          exact hsum.2
        rw [e, List.length_append, List.length_singleton] at o
        obtain ⟨g, cap, rfl, hnc, hcm, hbg, hgs, hcell, hfr⟩ := owns_at o (by omega)
        have c1 : wr.cell? ⟨g, a.length, none⟩ = some (.string (BA b)) := by rw [hcell a.length (by omega)]; simp [tS]
        have f1 := hfr a.length
        have oP := owns_put o a.length (tS (b ++ [L[k]]))
        rw [set_last] at oP
        have hB2 := hB.setCell (p := ⟨g, a.length, none⟩) hbg (tS (b ++ [L[k]]))
        have hx : s.extract k (k + 1) = BA [L[k]] := by
          rw [ext_BA, HL.out, List.take_succ_eq_append_getElem hkl, List.drop_left' (by rw [List.length_take]; omega)]
        obtain ⟨C, hC⟩ : ∃ C, BA [L[k]] = C := ⟨_, rfl⟩
        have hzC : C.size = 1 := by rw [← hC]; rfl
        obtain ⟨D, hD⟩ : ∃ D, BA b = D := ⟨_, rfl⟩
        have hzD : D.size ≤ 1000 := by rw [← hD, BA_size]; omega
        have hCD := hid (show Value.string (D ++ C) = tS (b ++ [L[k]]) by rw [← hC, ← hD, BA_app]; rfl)
        rw [hC] at hx
        rw [hD] at c1
        have y1 : ¬ (9223372036854775807 < D.size + C.size) := by omega
        have y2 : ¬ (9223372036854775807 < D.size + 1) := by omega
        have hal : a.length ≤ 1000 := by
          have h9 : (wordsL (L.take k)).length = a.length + 1 := by rw [e]; simp
          unfold wordsL at h9; simp at h9; omega
        have w1 : IntKind.i64.wrap (a.length : Int) = (a.length : Int) := IntWalk.i64_in _ (by omega)
        have i1 : (0 : Int) ≤ (k : Int) := by omega
        have i2 : (k : Int) ≤ (k : Int) + 1 := by omega
        have i3 : (k : Int) + 1 ≤ (s.size : Int) := by omega
        have i4 : ((k : Int) + 1).toNat = k + 1 := by omega
        have i5 : k + 1 ≤ s.size := by omega
        have i6 : (a.length : Int) < (a.length : Int) + 1 := by omega
        clear hC hD hcell hfr hbl hsum
        go_wp2
        go_region
        all_goals go_wp2
        all_goals rw [hCD.out]
        all_goals exact ⟨⟨k+1, by omega, by go_num, by rw [hst.out, List.length_append, List.length_singleton]; exact owns_below oP (Below.drew (Below.refl _ _)), Below.drew hB2⟩, by simp [intOf]; omega⟩
    · obtain rfl : k = s.size := by omega
      have hf : L.take s.size = L := List.take_of_length_le (by omega)
      rw [hf] at o
      go_wp2
      go_ret
      exact ⟨_, rfl, o, hB⟩
def linesOf (l : List UInt8) : List (List UInt8) := (partsL 10 l).1
theorem lines_nl {l : List UInt8} {k : Nat} (h : k < l.length) (hc : l[k] = 10) : partsL 10 (l.take (k+1)) = ((partsL 10 (l.take k)).1 ++ [(partsL 10 (l.take k)).2], []) := by
  rw [partsL_take h]; unfold addP; rw [if_pos hc]
theorem lines_char {l : List UInt8} {k : Nat} (h : k < l.length) (hc : l[k] ≠ 10) : partsL 10 (l.take (k+1)) = ((partsL 10 (l.take k)).1, (partsL 10 (l.take k)).2 ++ [l[k]]) := by
  rw [partsL_take h]; unfold addP; rw [if_neg hc]
theorem byte10 (c : UInt8) : ((c.toNat : Int) == 10) = decide (c = 10) := by
  by_cases h : c = 10
  · subst h; rfl
  · rw [decide_eq_false h]
    exact beq_eq_false_iff_ne.mpr (fun e => h (UInt8.toNat_inj.1 (by have : c.toNat = 10 := by omega
                                                                     exact this)))
set_option maxHeartbeats 8000000 in
theorem spec_l1Lines (s : ByteArray) (w : World) (hs : s.size ≤ 1000) :
    Calls Tryd.prog 20 #[.string s] w fun e w' => ∃ v : Value, e = .returned (.tuple #[v, .string (BA (partsL 10 s.data.toList).2)]) ∧ w'.ownsRow w.heap.size 9 1 v (partsL 10 s.data.toList).1.length ((partsL 10 s.data.toList).1.map tS) ∧ Below w.heap.size w w' := by
  obtain ⟨i0, hi, hz0, hz1, hz2⟩ := info_parts infoStr
  obtain ⟨L, hL⟩ : ∃ L, s.data.toList = L := ⟨_, rfl⟩
  have hLs : L.length = s.size := by rw [← hL]; rfl
  have HL := hid hL
  rw [hL]
  clear hL
  obtain ⟨W1, hW1⟩ : ∃ X, w.alloc (.cells #[] 9) = X := ⟨_, rfl⟩
  have hB1 : Below w.heap.size w W1 := by rw [← hW1]; exact (Below.refl _ _).alloc (Nat.le_refl _) _
  have o1 : W1.ownsRow w.heap.size 9 1 (.slice (some ⟨w.heap.size, 0, none⟩) 0 0) 0 [] := by rw [← hW1]; exact World.ownsRow_made _ _ _ (Nat.le_refl _) (by decide) rfl
  have HW1 := hid hW1
  clear hW1
  go_enter Tryd.func20, Tryd.ntmps20
  go_wp2_with fail
  rw [HW1.out]
  go_loopw [4, 5, 6] (fun o f i wr => ∃ k q : Nat, k ≤ s.size ∧ q ≤ k ∧ f = .int .i64 q ∧ i = .int .i64 k ∧ Hid ((L.take k).drop q = (partsL 10 (L.take k)).2) ∧ wr.ownsRow w.heap.size 9 1 o (partsL 10 (L.take k)).1.length ((partsL 10 (L.take k)).1.map tS) ∧ Below w.heap.size w wr) (fun _ _ i _ => s.size - (intOf i).toNat)
  case atStart => exact ⟨0, 0, by omega, by omega, rfl, rfl, hid rfl, by simpa [partsL] using o1, hB1⟩
  case round =>
    clear o1 hB1 HW1
    obtain ⟨k, q, hk, hq, rfl, rfl, hD, o, hB⟩ := hrel
    have hsz := hB.size
    by_cases hlt : k < s.size
    · have hlt' : (k : Int) < (s.size : Int) := by omega
      have hkl : k < L.length := by omega
      have bk := bt_eq hlt
      have hbl := bt_list s k (by rw [HL.out]; exact hkl)
      simp only [HL.out] at hbl
      have hsum := partsL_sum 10 L k (by omega)
      by_cases hc : L[k] = 10
      · have h32 : ((bt s k : Int) == 10) = true := by rw [← hbl, byte10, decide_eq_true hc]
        have hst := hid (lines_nl hkl hc)
        have hx : s.extract q k = BA (partsL 10 (L.take k)).2 := by rw [ext_BA, HL.out, hD.out]
        have i1 : (0 : Int) ≤ (q : Int) := by omega
        have i2 : (q : Int) ≤ (k : Int) := by omega
        have i3 : (k : Int) ≤ (s.size : Int) := by omega
        have oA := World.ownsRow.alloc o (.cells #[.string (BA (partsL 10 (L.take k)).2)] 9)
        have hq2 := hid (show (L.take (k+1)).drop (k+1) = [] from List.drop_eq_nil_of_le (by rw [List.length_take]; omega))
        have hwl := hsum.1
        clear hbl hsum
        go_wp2_with (at_builtin; refine wpList_append_flat rfl _ _ 41 rfl w.heap.size 9 i0 (.string ByteArray.empty) 1 16 Tryd.underlying41 hi hz0 hz1 hz2 rfl (by decide) _ _ _ rfl oA _ 1 [.string (BA (partsL 10 (L.take k)).2)] rfl (Flat.of_owns (owns_lit1 wr 9 (.string (BA (partsL 10 (L.take k)).2)) 0 (Nat.zero_le _))) (by intro c hc; simp at hc; subst hc; rfl) (by unfold maxLen; omega) (by omega) (by simp; omega) ?_)
        intro v2 w2 o2 g2
        have b2 := below_of_mark oA g2 (Nat.le_refl _) (by simp; omega)
        have hB2 : Below w.heap.size w w2 := Below.trans (hB.alloc hsz _) b2
        go_wp2
        go_roundw
        case rel => exact ⟨k+1, k+1, by omega, by omega, by go_num, by go_num, hid (by rw [hq2.out, hst.out]), by rw [hst.out, List.length_append, List.map_append]; exact o2, hB2⟩
        case measure => simp [intOf]; omega
      · have h32 : ((bt s k : Int) == 10) = false := by rw [← hbl, byte10, decide_eq_false hc]
        have hst := hid (lines_char hkl hc)
        have hq2 := hid (show (L.take (k+1)).drop q = (L.take k).drop q ++ [L[k]] by rw [List.take_succ_eq_append_getElem hkl, List.drop_append_of_le_length (by rw [List.length_take]; omega)])
        clear hbl hsum
        go_wp2
        go_roundw
        case rel => exact ⟨k+1, q, by omega, by omega, rfl, by go_num, hid (by rw [hq2.out, hst.out, hD.out]), by rw [hst.out]; exact o, hB⟩
        case measure => simp [intOf]; omega
    · obtain rfl : k = s.size := by omega
      have hf : L.take s.size = L := List.take_of_length_le (by omega)
      rw [hf] at o hD
      have hx : s.extract q s.size = BA (partsL 10 L).2 := by rw [ext_BA, HL.out, hf, hD.out]
      have i1 : (0 : Int) ≤ (q : Int) := by omega
      have i2 : (q : Int) ≤ (s.size : Int) := by omega
      go_wp2
      go_region
      all_goals go_wp2
      all_goals go_ret2
      all_goals exact ⟨_, rfl, owns_below o (Below.drew (Below.refl _ _)), Below.drew hB⟩
end Go.Proofs.YtikiaffgjpddeaaDoor
