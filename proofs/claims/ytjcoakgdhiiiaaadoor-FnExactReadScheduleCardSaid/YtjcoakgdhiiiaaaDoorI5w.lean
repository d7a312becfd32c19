/- Chapter 5's program: a word, as it is read. -/
import Derived.Test.YtjcoakgdhiiiaaaDoorI5t
import Derived.Lib.CutLaws
namespace Go.Proofs.YtjcoakgdhiiiaaaDoor
set_option maxRecDepth 100000
open Go.RowKit Go.Proofs Go.Own
set_option linter.unusedVariables false
set_option linter.unusedSimpArgs false
/-- What the library's two errors hold, and its table. -/
def Env (w : World) : Prop := Tab w ∧ (∃ t p, w.cell? ⟨1, 0, none⟩ = some (.iface t p)) ∧ ∃ t p, w.cell? ⟨2, 0, none⟩ = some (.iface t p)
theorem env_below {w w' : World} (h : Env w) (hb : Below w.heap.size w w') : Env w' := by
  obtain ⟨h1, ⟨t, p, h2⟩, u, q, h3⟩ := h
  exact ⟨tab_below h1 hb, ⟨t, p, (hb.cell (Lib.lt_of_cell h2)).trans h2⟩, u, q, (hb.cell (Lib.lt_of_cell h3)).trans h3⟩
theorem atoiC (s : ByteArray) (hs : s.size ≤ 1000) (w : World) (hv : Env w) :
    Calls Tryd.prog 31 #[.string s] w fun e w' => ∃ er, e = .returned (.tuple #[.int .i64 (atoiV s.data.toList), er]) ∧ Below w.heap.size w w' := by
  obtain ⟨_, ⟨t, p, h2⟩, u, q, h3⟩ := hv
  rcases h : Lib.atoiAll s.data.toList with v | _ | _
  · refine (Any.strconv_Atoi_ok Tryd.laysC172 s (by omega) v h w).mono ?_
    rintro e w' ⟨rfl, hw⟩
    refine ⟨_, by unfold atoiV; rw [h], ?_⟩
    rcases hw with rfl | ⟨t, rfl⟩
    · exact Below.refl _ _
    · exact Lib.bytesWorld_below _ _ _
  · refine (Any.strconv_Atoi_syntax Tryd.laysC172 s (by omega) h _ w h2 (.inr ⟨_, _, rfl⟩)).mono ?_
    rintro e w' ⟨N, rfl, _, _, hb⟩
    exact ⟨_, by unfold atoiV; rw [h], hb⟩
  · refine (Any.strconv_Atoi_range Tryd.laysC172 s (by omega) h _ w h3 (.inr ⟨_, _, rfl⟩)).mono ?_
    rintro e w' ⟨N, rfl, _, _, hb⟩
    exact ⟨_, by unfold atoiV; rw [h], hb⟩
theorem cut1 (s : ByteArray) (c : UInt8) (w : World) (hs : s.size ≤ 1000000) :
    Calls Tryd.prog 30 #[.string s, .string ⟨#[c]⟩] w fun e w' => e = .returned (.tuple #[.string (BA (Lib.cut s.data.toList [c]).1), .string (BA (Lib.cut s.data.toList [c]).2.1), .bool (Lib.cut s.data.toList [c]).2.2]) ∧ Below w.heap.size w w' := by
  rcases Lib.indexB_cases s ⟨#[c]⟩ with hix | ⟨i, hix, hroom⟩
  · obtain ⟨e1, e2, e3⟩ := Lib.cutB_miss s ⟨#[c]⟩ hix
    have q : Lib.indexByte s.data.toList c = -1 := (Lib.index_one s.data.toList c).symm.trans hix
    have E1 : BA (Lib.cut s.data.toList [c]).1 = s := e1
    have E2 : BA (Lib.cut s.data.toList [c]).2.1 = ByteArray.empty := e2
    have E3 : (Lib.cut s.data.toList [c]).2.2 = false := e3
    rw [E1, E2, E3]
    clear hix e1 e2 e3 E1 E2 E3
    go_enter Tryd.func30, Tryd.ntmps30
    go_wp2_with (go_at_call 36; refine (Tryd.stringslite_Index_one _ _ _).mono ?_; rintro e w' ⟨rfl, rfl⟩; rw [q])
    go_ret3
    exact ⟨rfl, Below.refl _ _⟩
  · obtain ⟨e1, e2, e3⟩ := Lib.cutB_hit s ⟨#[c]⟩ i hix
    have q : Lib.indexByte s.data.toList c = i := (Lib.index_one s.data.toList c).symm.trans hix
    have E1 : BA (Lib.cut s.data.toList [c]).1 = s.extract 0 i := e1
    have E2 : BA (Lib.cut s.data.toList [c]).2.1 = s.extract (i + 1) s.size := e2
    have E3 : (Lib.cut s.data.toList [c]).2.2 = true := e3
    rw [E1, E2, E3]
    have hr : i + 1 ≤ s.size := hroom
    have c1 : (0 : Int) ≤ ↑i := by omega
    have c2 : (↑i : Int) ≤ ↑s.size := by omega
    have c3 : (0 : Int) ≤ ↑i + 1 := by omega
    have c4 : (↑i + 1 : Int) ≤ ↑s.size := by omega
    have hw : IntKind.i64.wrap ((i : Int) + 1) = (i : Int) + 1 := IntWalk.i64_in _ (by omega)
    have hn : ((i : Int) + 1).toNat = i + 1 := by omega
    have sz : ByteArray.size ⟨#[c]⟩ = 1 := rfl
    clear hix e1 e2 e3 E1 E2 E3 hroom
    go_enter Tryd.func30, Tryd.ntmps30
    go_wp2_with (go_at_call 36; refine (Tryd.stringslite_Index_one _ _ _).mono ?_; rintro e w' ⟨rfl, rfl⟩; rw [q])
    go_region
    all_goals go_wp2
    all_goals go_ret3
    all_goals exact ⟨rfl, (by repeat (first | exact Below.refl _ _ | refine below_drewN ?_ _ | refine Below.drew ?_ | refine Below.setCell ?_ (by simp; try omega) _ | refine Below.alloc ?_ (by simp; try omega) _))⟩
theorem cut2 (s : ByteArray) (c : UInt8) (w : World) (hs : s.size ≤ 1000000) :
    Calls Tryd.prog 22 #[.string s, .string ⟨#[c]⟩] w fun e w' => e = .returned (.tuple #[.string (BA (Lib.cut s.data.toList [c]).1), .string (BA (Lib.cut s.data.toList [c]).2.1), .bool (Lib.cut s.data.toList [c]).2.2]) ∧ Below w.heap.size w w' := by
  have h := cut1 s c w hs
  generalize BA (Lib.cut s.data.toList [c]).1 = a1 at *
  generalize BA (Lib.cut s.data.toList [c]).2.1 = a2 at *
  generalize (Lib.cut s.data.toList [c]).2.2 = a3 at *
  go_enter Tryd.func22, Tryd.ntmps22
  go_wp2_with fail
  refine h.mono ?_
  rintro e w' ⟨rfl, hb⟩
  go_wp2
  go_ret3
  exact ⟨rfl, hb⟩
theorem toList_ne {a b : ByteArray} (h : ¬ a = b) : (a.toList == b.toList) = false := by
  rw [beq_eq_false_iff_ne]
  intro e
  apply h
  rw [Lib.toList_data, Lib.toList_data] at e
  rw [← BA_eta a, ← BA_eta b, e]
theorem cut_len (l : List UInt8) (c : UInt8) : (Lib.cut l [c]).1.length ≤ l.length ∧ (Lib.cut l [c]).2.1.length ≤ l.length := by
  unfold Lib.cut
  split
  · simp only [List.length_take, List.length_drop]; omega
  · simp
set_option maxHeartbeats 8000000 in
theorem impl_runOf (s : ByteArray) (w : World) (hs : s.size ≤ 600) (hv : Env w) :
    Calls Tryd.prog 23 #[.string s] w fun e w' => WordR s e ∧ Below w.heap.size w w' := by
  have Hw := hid (wordP s)
  obtain ⟨hl1, hl2⟩ := cut_len s.data.toList 42
  have hsl : s.data.toList.length = s.size := rfl
  have hP : runP s = ⟨atoiV (BA (Lib.cut s.data.toList [42]).1).data.toList, if (Lib.cut s.data.toList [42]).2.2 = true then atoiV (BA (Lib.cut s.data.toList [42]).2.1).data.toList else 1⟩ := rfl
  have hcut := hid (fun w => cut2 s 42 w (by omega))
  have z1 : (BA (Lib.cut s.data.toList [42]).1).size ≤ 1000 := by rw [BA_size]; omega
  have z2 : (BA (Lib.cut s.data.toList [42]).2.1).size ≤ 1000 := by rw [BA_size]; omega
  clear hl1 hl2 hsl
  generalize BA (Lib.cut s.data.toList [42]).1 = a1 at *
  generalize BA (Lib.cut s.data.toList [42]).2.1 = a2 at *
  generalize (Lib.cut s.data.toList [42]).2.2 = a3 at *
  have hA1 := hid (fun w hv => atoiC a1 z1 w hv)
  have hA2 := hid (fun w hv => atoiC a2 z2 w hv)
  obtain ⟨n1, hn1⟩ : ∃ n, Hid (atoiV a1.data.toList = n) := ⟨_, hid rfl⟩
  obtain ⟨n2, hn2⟩ : ∃ n, Hid (atoiV a2.data.toList = n) := ⟨_, hid rfl⟩
  rw [hn1.out, hn2.out] at hP
  have HP := hid hP
  clear hP z1 z2
  obtain ⟨W0, hW0⟩ : ∃ X, w.alloc (.cells #[Value.int .i64 0, Value.int .i64 0] 37) = X := ⟨_, rfl⟩
  have hB0 : Below w.heap.size w W0 := by rw [← hW0]; exact (Below.refl _ _).alloc (Nat.le_refl _) _
  have x0 : BoxF W0 w.heap.size [Value.int .i64 0, Value.int .i64 0] := by rw [← hW0]; exact BoxF.alloc w #[Value.int .i64 0, Value.int .i64 0] 37
  have v0 := env_below hv hB0
  go_enter Tryd.func23, Tryd.ntmps23
  go_wp2_with fail
  refine (hcut.out _).mono ?_
  rintro e w1 ⟨rfl, b1⟩
  have hB1 := hB0.trans (b1.mono hB0.size)
  have x1 := x0.below b1
  have v1 := env_below v0 b1
  clear hW0 x0 hcut
  obtain ⟨W2, hW2⟩ : ∃ X, w1.alloc (.cells #[Value.int .i64 0, Value.int .i64 1] 37) = X := ⟨_, rfl⟩
  have bb2 : Below w1.heap.size w1 W2 := by rw [← hW2]; exact (Below.refl _ _).alloc (Nat.le_refl _) _
  have hB2 := hB1.trans (bb2.mono hB1.size)
  have x2 := x1.below bb2
  have v2 := env_below v1 bb2
  have y2 : BoxF W2 w1.heap.size [Value.int .i64 0, Value.int .i64 1] := by rw [← hW2]; exact BoxF.alloc w1 #[Value.int .i64 0, Value.int .i64 1] 37
  have hne : w.heap.size ≠ w1.heap.size := by have := x1.1.1; omega
  have hN1 : w.heap.size ≤ w1.heap.size := by have := x1.1.1; omega
  go_wp2_with fail
  refine (hA1.out _ v2).mono ?_
  rintro e w3 ⟨er, rfl, b3⟩
  rw [hn1.out]
  have hB3 := hB2.trans (b3.mono hB2.size)
  have x3 := x2.below b3
  have y3 := y2.below b3
  have v3 := env_below v2 b3
  have k0 := y3.1.2 0 (by simp)
  have f0 := y3.2 0 (by simp)
  clear hW2 x1 x2 y2 hA1
  have y4 := y3.set 0 (by simp) (.int .i64 n1)
  have x4 := x3.other ⟨w1.heap.size, 0, none⟩ (.int .i64 n1) (by simpa using hne.symm)
  have hB4 := hB3.setCell (p := ⟨w1.heap.size, 0, none⟩) hN1 (.int .i64 n1)
  have v4 : Env (w3.setCell ⟨w1.heap.size, 0, none⟩ (.int .i64 n1)) := env_below hv hB4
  obtain ⟨W4, hW4⟩ : ∃ X, w3.setCell ⟨w1.heap.size, 0, none⟩ (.int .i64 n1) = X := ⟨_, rfl⟩
  rw [hW4] at y4 x4 hB4 v4
  have q0 : W4.cell? ⟨w1.heap.size, 0, none⟩ = some (.int .i64 n1) := y4.1.2 0 (by simp)
  have q1 : W4.cell? ⟨w1.heap.size, 1, none⟩ = some (.int .i64 1) := y4.1.2 1 (by simp)
  cases a3 with
  | false =>
    have HP2 := hid (show runP s = ⟨n1, 1⟩ from HP.out)
    clear HP hA2
    go_wp2_with fail
    refine (impl_runOk ⟨n1, 1⟩ _).mono ?_
    rintro e w5 ⟨rfl, b5⟩
    have hB5 := hB4.trans (b5.mono hB4.size)
    have x5 := x4.below b5
    have y5 := y4.below b5
    have v5 := env_below v4 b5
    have p0 : w5.cell? ⟨w1.heap.size, 0, none⟩ = some (.int .i64 n1) := y5.1.2 0 (by simp)
    have p1 : w5.cell? ⟨w1.heap.size, 1, none⟩ = some (.int .i64 1) := y5.1.2 1 (by simp)
    have r0 : w5.cell? ⟨w.heap.size, 0, none⟩ = some (.int .i64 0) := x5.1.2 0 (by simp)
    have r1 : w5.cell? ⟨w.heap.size, 1, none⟩ = some (.int .i64 0) := x5.1.2 1 (by simp)
    have rf0 := x5.2 0 (by simp)
    have rf1 := x5.2 1 (by simp)
    cases hr : runOk ⟨n1, 1⟩ with
    | false =>
      have Hn := hid (show wordC s = none by rw [Hw.out, HP2.out, hr]; rfl)
      have x6 := (x5.set 0 (by simp) (.int .i64 0)).set 1 (by simp) (.int .i64 0)
      have hB6 := (hB5.setCell (p := ⟨w.heap.size, 0, none⟩) (Nat.le_refl _) (.int .i64 0)).setCell (p := ⟨w.heap.size, 1, none⟩) (Nat.le_refl _) (.int .i64 0)
      go_wp2
      obtain ⟨W6, hW6⟩ : ∃ X, ((w5.setCell ⟨w.heap.size, 0, none⟩ (.int .i64 0)).setCell ⟨w.heap.size, 1, none⟩ (.int .i64 0)) = X := ⟨_, rfl⟩
      rw [hW6] at x6 hB6 ⊢
      have c0 : W6.cell? ⟨w.heap.size, 0, none⟩ = some (.int .i64 0) := x6.1.2 0 (by simp)
      have c1 : W6.cell? ⟨w.heap.size, 1, none⟩ = some (.int .i64 0) := x6.1.2 1 (by simp)
      exact bodyPost_ret (v := .tuple #[.agg #[.int .i64 0, .int .i64 0], .bool false]) (by simp [results, Tryd.results23, go_sem, c0, c1]) rfl ⟨⟨⟨0, 0⟩, false, rfl, Hn.out⟩, hB6⟩
    | true =>
      have hr2 : inB (n1) 0 3 = true ∧ inB (1) 1 500 = true := by simpa [runOk] using hr
      go_wp2_with fail
      refine (impl_runTextI _ _ hr2.1 hr2.2 _ v5.1).mono ?_
      rintro e w7 ⟨rfl, b7⟩
      have hB7 := hB5.trans (b7.mono hB5.size)
      have x7 := x5.below b7
      have y7 := y5.below b7
      have g0 : w7.cell? ⟨w1.heap.size, 0, none⟩ = some (.int .i64 (n1)) := y7.1.2 0 (by simp)
      have g1 : w7.cell? ⟨w1.heap.size, 1, none⟩ = some (.int .i64 (1)) := y7.1.2 1 (by simp)
      have d0 : w7.cell? ⟨w.heap.size, 0, none⟩ = some (.int .i64 0) := x7.1.2 0 (by simp)
      have d1 : w7.cell? ⟨w.heap.size, 1, none⟩ = some (.int .i64 0) := x7.1.2 1 (by simp)
      have df0 := x7.2 0 (by simp)
      have df1 := x7.2 1 (by simp)
      clear hr2
      obtain ⟨Z, hZ⟩ : ∃ Z, Hid (runS ⟨n1, 1⟩ = Z) := ⟨_, hid rfl⟩
      rw [hZ.out]
      by_cases hzs : Z = s
      · have Hn := hid (show wordC s = some ⟨n1, 1⟩ by rw [Hw.out, HP2.out, if_pos ⟨hr, hZ.out.trans hzs⟩])
        have x6 := (x7.set 0 (by simp) (.int .i64 (n1))).set 1 (by simp) (.int .i64 (1))
        have hB6 := (hB7.setCell (p := ⟨w.heap.size, 0, none⟩) (Nat.le_refl _) (.int .i64 (n1))).setCell (p := ⟨w.heap.size, 1, none⟩) (Nat.le_refl _) (.int .i64 (1))
        subst hzs
        go_wp2
        obtain ⟨W6, hW6⟩ : ∃ X, ((w7.setCell ⟨w.heap.size, 0, none⟩ (.int .i64 (n1))).setCell ⟨w.heap.size, 1, none⟩ (.int .i64 (1))) = X := ⟨_, rfl⟩
        rw [hW6] at x6 hB6 ⊢
        have c0 : W6.cell? ⟨w.heap.size, 0, none⟩ = some (.int .i64 (n1)) := x6.1.2 0 (by simp)
        have c1 : W6.cell? ⟨w.heap.size, 1, none⟩ = some (.int .i64 (1)) := x6.1.2 1 (by simp)
        exact bodyPost_ret (v := .tuple #[.agg #[.int .i64 (n1), .int .i64 (1)], .bool true]) (by simp [results, Tryd.results23, go_sem, c0, c1]) rfl ⟨⟨⟨n1, 1⟩, true, rfl, Hn.out⟩, hB6⟩
      · have Hn := hid (show wordC s = none by rw [Hw.out, HP2.out, if_neg (fun h => hzs (hZ.out.symm.trans h.2))])
        have x6 := (x7.set 0 (by simp) (.int .i64 0)).set 1 (by simp) (.int .i64 0)
        have hB6 := (hB7.setCell (p := ⟨w.heap.size, 0, none⟩) (Nat.le_refl _) (.int .i64 0)).setCell (p := ⟨w.heap.size, 1, none⟩) (Nat.le_refl _) (.int .i64 0)
        have hq : (Z.toList == s.toList) = false := toList_ne hzs
        go_wp2
        obtain ⟨W6, hW6⟩ : ∃ X, ((w7.setCell ⟨w.heap.size, 0, none⟩ (.int .i64 0)).setCell ⟨w.heap.size, 1, none⟩ (.int .i64 0)) = X := ⟨_, rfl⟩
        rw [hW6] at x6 hB6 ⊢
        have c0 : W6.cell? ⟨w.heap.size, 0, none⟩ = some (.int .i64 0) := x6.1.2 0 (by simp)
        have c1 : W6.cell? ⟨w.heap.size, 1, none⟩ = some (.int .i64 0) := x6.1.2 1 (by simp)
        exact bodyPost_ret (v := .tuple #[.agg #[.int .i64 0, .int .i64 0], .bool false]) (by simp [results, Tryd.results23, go_sem, c0, c1]) rfl ⟨⟨⟨0, 0⟩, false, rfl, Hn.out⟩, hB6⟩
  | true =>
    have HP2 := hid (show runP s = ⟨n1, n2⟩ from HP.out)
    clear HP
    go_wp2_with fail
    refine (hA2.out _ v4).mono ?_
    rintro e w8 ⟨er2, rfl, b8⟩
    rw [hn2.out]
    have hB8 := hB4.trans (b8.mono hB4.size)
    have x8 := x4.below b8
    have y8 := y4.below b8
    have k8 := y8.1.2 1 (by simp)
    have f8 := y8.2 1 (by simp)
    clear hA2 q0 q1
    have y9 := y8.set 1 (by simp) (.int .i64 n2)
    have x9 := x8.other ⟨w1.heap.size, 1, none⟩ (.int .i64 n2) (by simpa using hne.symm)
    have hB9 := hB8.setCell (p := ⟨w1.heap.size, 1, none⟩) hN1 (.int .i64 n2)
    have v9 : Env (w8.setCell ⟨w1.heap.size, 1, none⟩ (.int .i64 n2)) := env_below hv hB9
    obtain ⟨W9, hW9⟩ : ∃ X, w8.setCell ⟨w1.heap.size, 1, none⟩ (.int .i64 n2) = X := ⟨_, rfl⟩
    rw [hW9] at y9 x9 hB9 v9
    have q0 : W9.cell? ⟨w1.heap.size, 0, none⟩ = some (.int .i64 n1) := y9.1.2 0 (by simp)
    have q1 : W9.cell? ⟨w1.heap.size, 1, none⟩ = some (.int .i64 n2) := y9.1.2 1 (by simp)
    go_wp2_with fail
    refine (impl_runOk ⟨n1, n2⟩ _).mono ?_
    rintro e w5 ⟨rfl, b5⟩
    have hB5 := hB9.trans (b5.mono hB9.size)
    have x5 := x9.below b5
    have y5 := y9.below b5
    have v5 := env_below v9 b5
    have p0 : w5.cell? ⟨w1.heap.size, 0, none⟩ = some (.int .i64 n1) := y5.1.2 0 (by simp)
    have p1 : w5.cell? ⟨w1.heap.size, 1, none⟩ = some (.int .i64 n2) := y5.1.2 1 (by simp)
    have r0 : w5.cell? ⟨w.heap.size, 0, none⟩ = some (.int .i64 0) := x5.1.2 0 (by simp)
    have r1 : w5.cell? ⟨w.heap.size, 1, none⟩ = some (.int .i64 0) := x5.1.2 1 (by simp)
    have rf0 := x5.2 0 (by simp)
    have rf1 := x5.2 1 (by simp)
    cases hr : runOk ⟨n1, n2⟩ with
    | false =>
      have Hn := hid (show wordC s = none by rw [Hw.out, HP2.out, hr]; rfl)
      have x6 := (x5.set 0 (by simp) (.int .i64 0)).set 1 (by simp) (.int .i64 0)
      have hB6 := (hB5.setCell (p := ⟨w.heap.size, 0, none⟩) (Nat.le_refl _) (.int .i64 0)).setCell (p := ⟨w.heap.size, 1, none⟩) (Nat.le_refl _) (.int .i64 0)
      go_wp2
      obtain ⟨W6, hW6⟩ : ∃ X, ((w5.setCell ⟨w.heap.size, 0, none⟩ (.int .i64 0)).setCell ⟨w.heap.size, 1, none⟩ (.int .i64 0)) = X := ⟨_, rfl⟩
      rw [hW6] at x6 hB6 ⊢
      have c0 : W6.cell? ⟨w.heap.size, 0, none⟩ = some (.int .i64 0) := x6.1.2 0 (by simp)
      have c1 : W6.cell? ⟨w.heap.size, 1, none⟩ = some (.int .i64 0) := x6.1.2 1 (by simp)
      exact bodyPost_ret (v := .tuple #[.agg #[.int .i64 0, .int .i64 0], .bool false]) (by simp [results, Tryd.results23, go_sem, c0, c1]) rfl ⟨⟨⟨0, 0⟩, false, rfl, Hn.out⟩, hB6⟩
    | true =>
      have hr2 : inB (n1) 0 3 = true ∧ inB (n2) 1 500 = true := by simpa [runOk] using hr
      go_wp2_with fail
      refine (impl_runTextI _ _ hr2.1 hr2.2 _ v5.1).mono ?_
      rintro e w7 ⟨rfl, b7⟩
      have hB7 := hB5.trans (b7.mono hB5.size)
      have x7 := x5.below b7
      have y7 := y5.below b7
      have g0 : w7.cell? ⟨w1.heap.size, 0, none⟩ = some (.int .i64 (n1)) := y7.1.2 0 (by simp)
      have g1 : w7.cell? ⟨w1.heap.size, 1, none⟩ = some (.int .i64 (n2)) := y7.1.2 1 (by simp)
      have d0 : w7.cell? ⟨w.heap.size, 0, none⟩ = some (.int .i64 0) := x7.1.2 0 (by simp)
      have d1 : w7.cell? ⟨w.heap.size, 1, none⟩ = some (.int .i64 0) := x7.1.2 1 (by simp)
      have df0 := x7.2 0 (by simp)
      have df1 := x7.2 1 (by simp)
      clear hr2
      obtain ⟨Z, hZ⟩ : ∃ Z, Hid (runS ⟨n1, n2⟩ = Z) := ⟨_, hid rfl⟩
      rw [hZ.out]
      by_cases hzs : Z = s
      · have Hn := hid (show wordC s = some ⟨n1, n2⟩ by rw [Hw.out, HP2.out, if_pos ⟨hr, hZ.out.trans hzs⟩])
        have x6 := (x7.set 0 (by simp) (.int .i64 (n1))).set 1 (by simp) (.int .i64 (n2))
        have hB6 := (hB7.setCell (p := ⟨w.heap.size, 0, none⟩) (Nat.le_refl _) (.int .i64 (n1))).setCell (p := ⟨w.heap.size, 1, none⟩) (Nat.le_refl _) (.int .i64 (n2))
        subst hzs
        go_wp2
        obtain ⟨W6, hW6⟩ : ∃ X, ((w7.setCell ⟨w.heap.size, 0, none⟩ (.int .i64 (n1))).setCell ⟨w.heap.size, 1, none⟩ (.int .i64 (n2))) = X := ⟨_, rfl⟩
        rw [hW6] at x6 hB6 ⊢
        have c0 : W6.cell? ⟨w.heap.size, 0, none⟩ = some (.int .i64 (n1)) := x6.1.2 0 (by simp)
        have c1 : W6.cell? ⟨w.heap.size, 1, none⟩ = some (.int .i64 (n2)) := x6.1.2 1 (by simp)
        exact bodyPost_ret (v := .tuple #[.agg #[.int .i64 (n1), .int .i64 (n2)], .bool true]) (by simp [results, Tryd.results23, go_sem, c0, c1]) rfl ⟨⟨⟨n1, n2⟩, true, rfl, Hn.out⟩, hB6⟩
      · have Hn := hid (show wordC s = none by rw [Hw.out, HP2.out, if_neg (fun h => hzs (hZ.out.symm.trans h.2))])
        have x6 := (x7.set 0 (by simp) (.int .i64 0)).set 1 (by simp) (.int .i64 0)
        have hB6 := (hB7.setCell (p := ⟨w.heap.size, 0, none⟩) (Nat.le_refl _) (.int .i64 0)).setCell (p := ⟨w.heap.size, 1, none⟩) (Nat.le_refl _) (.int .i64 0)
        have hq : (Z.toList == s.toList) = false := toList_ne hzs
        go_wp2
        obtain ⟨W6, hW6⟩ : ∃ X, ((w7.setCell ⟨w.heap.size, 0, none⟩ (.int .i64 0)).setCell ⟨w.heap.size, 1, none⟩ (.int .i64 0)) = X := ⟨_, rfl⟩
        rw [hW6] at x6 hB6 ⊢
        have c0 : W6.cell? ⟨w.heap.size, 0, none⟩ = some (.int .i64 0) := x6.1.2 0 (by simp)
        have c1 : W6.cell? ⟨w.heap.size, 1, none⟩ = some (.int .i64 0) := x6.1.2 1 (by simp)
        exact bodyPost_ret (v := .tuple #[.agg #[.int .i64 0, .int .i64 0], .bool false]) (by simp [results, Tryd.results23, go_sem, c0, c1]) rfl ⟨⟨⟨0, 0⟩, false, rfl, Hn.out⟩, hB6⟩
end Go.Proofs.YtjcoakgdhiiiaaaDoor
