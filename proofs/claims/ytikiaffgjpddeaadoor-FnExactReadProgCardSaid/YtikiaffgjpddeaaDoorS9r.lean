/- Chapter 9's model: ReadProg. -/
import Derived.Test.YtikiaffgjpddeaaDoorS9l
import Derived.Test.YtikiaffgjpddeaaDoorS9p
import Derived.Test.YtikiaffgjpddeaaDoorEnc4
import Derived.Deep.Cut
import Derived.Deep.CutRange
namespace Go.Proofs.YtikiaffgjpddeaaDoor
set_option maxRecDepth 100000
open Go.RowKit Go.Proofs Go.Own
open Go Go.BigFrame
set_option linter.unusedVariables false
set_option linter.unusedSimpArgs false
def opTo (s : List UInt8) : Nat → Int
  | 0 => 0
  | k + 1 => if nmL ((k : Int) + 1) = s then (k : Int) + 1 else opTo s k
theorem opTo_rng (s : List UInt8) : ∀ k, 0 ≤ opTo s k ∧ opTo s k ≤ k
  | 0 => by simp [opTo]
  | k + 1 => by have := opTo_rng s k; unfold opTo; split <;> omega
theorem opTo_ok (s : List UInt8) : OpOk s (opTo s 8) := by
  intro k hk e
  have h : k = 1 ∨ k = 2 ∨ k = 3 ∨ k = 4 ∨ k = 5 ∨ k = 6 ∨ k = 7 ∨ k = 8 := by omega
  rcases h with rfl | rfl | rfl | rfl | rfl | rfl | rfl | rfl <;> subst e <;> decide
def rowLen : Value → Nat
  | .slice _ n _ => n
  | _ => 0
theorem get3_snoc (P : List (List UInt8)) (j : Nat) : (P ++ [[]]).getD j [] = P.getD j [] := by
  by_cases h : j < P.length
  · simp [List.getD, List.getElem?_append_left h]
  · simp only [List.getD]
    rw [List.getElem?_eq_none (Nat.le_of_not_lt h)]
    by_cases e : j = P.length
    · subst e; simp
    · rw [List.getElem?_eq_none (by simp; omega)]
theorem three {P : List (List UInt8)} (h : 3 ≤ P.length) : ∃ a b c r, P = a :: b :: c :: r := by
  match P, h with
  | a :: b :: c :: r, _ => exact ⟨a, b, c, r, rfl⟩
theorem name_at (K : Nat) (h : 1 ≤ K ∧ K ≤ 8) : namesV.toList[K]? = some (.string (BA (nmL (K : Int)))) := by
  have hk : K = 1 ∨ K = 2 ∨ K = 3 ∨ K = 4 ∨ K = 5 ∨ K = 6 ∨ K = 7 ∨ K = 8 := by omega
  rcases hk with rfl | rfl | rfl | rfl | rfl | rfl | rfl | rfl <;> rfl
theorem spec_l9InstrIs (i : Instr) (n : Int) (r : Bool) (w : World) (hr : instrOk i n = r) :
    Calls Tryd.prog 24 #[.agg #[.int .i64 i.op_, .int .i64 i.a_, .int .i64 i.b_], .int .i64 n] w fun e w' => e = .returned (.bool r) ∧ Below w.heap.size w w' := by
  subst hr; exact spec_l9Instr i n w
theorem spec_l9LineIs (i : Instr) (n : Int) (r : ByteArray) (w : World) (h : instrOk i n = true) (hn : n ≤ 1000000000) (hr : BA (lineL i) = r) :
    Calls Tryd.prog 15 #[.agg #[.int .i64 i.op_, .int .i64 i.a_, .int .i64 i.b_]] w fun e w' => e = .returned (.string r) ∧ Below w.heap.size w w' := by
  subst hr; exact spec_l9Line i w (instrOk_op h) (instrOk_rng h hn).1 (instrOk_rng h hn).2
/-- What is answered. -/
def ReadR (N : Nat) (e : Ending) (w : World) (R : List Instr × Int × Bool) : Prop := ∃ v : Value, e = .returned (.tuple #[v, .int .i64 R.2.1, .bool R.2.2]) ∧ w.ownsRow N 37 3 v R.1.length (R.1.flatMap Instr.enc)
theorem readR_of {N : Nat} {e : Ending} {w : World} {R : List Instr × Int × Bool} {v : Value} {xs : List Instr} {n : Int} {b : Bool} (hR : R = (xs, n, b)) (he : e = .returned (.tuple #[v, .int .i64 n, .bool b])) (h : w.ownsRow N 37 3 v xs.length (xs.flatMap Instr.enc)) : ReadR N e w R := by
  subst hR; exact ⟨v, he, h⟩
theorem readFrom_30 {n : Int} {rest : List UInt8} {LS : List (List UInt8)} {O : List Instr} {k : Nat} (h : k < LS.length) (h30 : k = 30) : readFrom n rest (LS.drop k) k O = ([], (k : Int), false) := by
  rw [List.drop_eq_getElem_cons h]; unfold readFrom; rw [if_pos h30]
theorem readFrom_no {n : Int} {rest : List UInt8} {LS : List (List UInt8)} {O : List Instr} {k : Nat} (h : k < LS.length) (h2 : readI LS[k] n = none) : readFrom n rest (LS.drop k) k O = ([], (k : Int), false) := by
  rw [List.drop_eq_getElem_cons h]; unfold readFrom
  split
  · rfl
  · rw [h2]
theorem readFrom_step {n : Int} {rest : List UInt8} {LS : List (List UInt8)} {O : List Instr} {k : Nat} {i : Instr} (h : k < LS.length) (h30 : k ≠ 30) (h2 : readI LS[k] n = some i) : readFrom n rest (LS.drop k) k O = readFrom n rest (LS.drop (k+1)) (k+1) (O ++ [i]) := by
  rw [List.drop_eq_getElem_cons h]
  conv => lhs; unfold readFrom
  rw [if_neg h30, h2]
theorem readFrom_end {n : Int} {rest : List UInt8} {LS : List (List UInt8)} {O : List Instr} {k : Nat} (h : ¬ k < LS.length) : readFrom n rest (LS.drop k) k O = if rest = [] then (O, -1, true) else ([], (k : Int), false) := by
  rw [List.drop_eq_nil_of_le (by omega)]; rfl
set_option maxHeartbeats 16000000 in
theorem spec_ReadProg0 (s : ByteArray) (w : World) :
    Calls Tryd.prog 10 #[.string s] w fun e w' => ReadR w.heap.size e w' (readC s.data.toList) ∧ Below w.heap.size w w' := by
  obtain ⟨i0, hi, hz0, hz1, hz2⟩ := info_parts infoInstr
  obtain ⟨j0, hj, hy0, hy1, hy2⟩ := info_parts infoStr
  obtain ⟨W1, hW1⟩ : ∃ X, w.alloc (.cells #[] 37) = X := ⟨_, rfl⟩
  have hB1 : Below w.heap.size w W1 := by rw [← hW1]; exact (Below.refl _ _).alloc (Nat.le_refl _) _
  have o1 : W1.ownsRow w.heap.size 37 3 (.slice (some ⟨w.heap.size, 0, none⟩) 0 0) 0 [] := by rw [← hW1]; exact World.ownsRow_made _ _ _ (Nat.le_refl _) (by decide) rfl
  have hN1 : w.heap.size < W1.heap.size := by rw [← hW1]; simp
  have HW1 := hid hW1
  clear hW1
  have hlen : s.data.toList.length = s.size := rfl
  by_cases s9 : (900 : Int) < (s.size : Int)
  · have Hy := hid (show readC s.data.toList = ([], 0, false) by unfold readC; rw [if_pos (by omega)])
    go_enter Tryd.func10, Tryd.ntmps10
    go_wp2_with fail
    rw [HW1.out]
    go_wp2
    go_ret3
    exact ⟨readR_of Hy.out rfl o1, hB1⟩
  have Hy := hid (show readC s.data.toList = readFrom (((partsL 10 s.data.toList).1.length : Int) + if (partsL 10 s.data.toList).2 = [] then 0 else 1) (partsL 10 s.data.toList).2 (partsL 10 s.data.toList).1 0 [] by unfold readC; rw [if_neg (by omega)])
  have hsum := partsL_sum 10 s.data.toList s.size (Nat.le_refl _)
  have hmem := partsL_mem 10 s.data.toList s.size (Nat.le_refl _)
  rw [show s.data.toList.take s.size = s.data.toList from List.take_of_length_le (Nat.le_refl _)] at hsum hmem
  go_enter Tryd.func10, Tryd.ntmps10
  go_wp2_with fail
  rw [HW1.out]
  go_wp2_with fail
  refine (spec_l1Lines s _ (by omega)).mono ?_
  rintro e w2 ⟨lv, rfl, ol, b2⟩
  have hB2 := hB1.trans (b2.mono hB1.size)
  have o2 := owns_below o1 b2
  obtain ⟨LS, hLS⟩ : ∃ LS, (partsL 10 s.data.toList).1 = LS := ⟨_, rfl⟩
  obtain ⟨rest, hrest⟩ : ∃ r, (partsL 10 s.data.toList).2 = r := ⟨_, rfl⟩
  rw [hLS] at ol hsum hmem Hy
  rw [hrest] at hsum Hy
  rw [hrest]
  obtain ⟨nA, hnA⟩ : ∃ nA : Int, (LS.length : Int) + (if rest = [] then 0 else 1) = nA := ⟨_, rfl⟩
  rw [hnA] at Hy
  have HnA := hid hnA
  have hnb : 0 ≤ nA ∧ nA ≤ 901 := by rw [← hnA]; split <;> omega
  have hmem2 := hid (show ∀ l ∈ LS, l.length ≤ 900 from fun l hl => by have := hmem l hl; omega)
  have hls9 : LS.length ≤ 900 := by omega
  have hapart : lv.ownBlock ≠ some w.heap.size := by
    intro e
    have h9 := World.ownsRow.lt ol w.heap.size e
    omega
  have hre := eqS rest []
  obtain ⟨R, hR⟩ : ∃ R, BA rest = R := ⟨_, rfl⟩
  rw [hR]
  rw [hR, show (BA ([] : List UInt8)).toList = [] from by rw [ByteArray.toList_eq]; rfl] at hre
  clear hmem hsum hnA hrest hLS hlen b2 o1 hB1 HW1
  obtain ⟨ad, cap, rfl, hl, hm, hlc⟩ := Strs.open (Flat.of_owns ol)
  clear hlc
  go_upto_if 26 with fail
  go_cut [8] from 26 (fun a wx => a = .int .i64 nA ∧ wx = w2)
  case first =>
    by_cases hr : rest = []
    · have e1 : decide (rest = []) = true := decide_eq_true hr
      have e2 := hid (show (LS.length : Int) = nA by rw [← HnA.out, if_pos hr]; omega)
      clear hr
      rw [e1]
      go_wp2
      go_meet
      exact ⟨by rw [e2.out], rfl⟩
    · have e1 : decide (rest = []) = false := decide_eq_false hr
      have e2 := hid (show (LS.length : Int) + 1 = nA by rw [← HnA.out, if_neg hr])
      clear hr
      rw [e1]
      go_wp2
      go_meet
      exact ⟨by rw [e2.out], rfl⟩
  case rest =>
  obtain ⟨rfl, rfl⟩ := hcut
  have hl63 : LS.length ≤ 9223372036854775807 := by omega
  go_wp2
  go_loopw [5, 9] (fun o n wr => ∃ (k : Nat) (O : List Instr), k ≤ LS.length ∧ n = .int .i64 k ∧ O.length = k ∧ k ≤ 30 ∧ Hid (readFrom nA rest LS 0 [] = readFrom nA rest (LS.drop k) k O) ∧ wr.ownsRow w.heap.size 37 3 o k (O.flatMap Instr.enc) ∧ wr.ownsRow W1.heap.size 9 1 (.slice ad LS.length cap) LS.length (LS.map tS) ∧ Hid (∀ b, o.ownBlock = some b → (Value.slice ad LS.length cap).ownBlock ≠ some b) ∧ Below w.heap.size w wr) (fun _ n _ => LS.length - (intOf n).toNat)
  case atStart => exact ⟨0, [], by omega, rfl, rfl, by omega, hid rfl, o2, ol, hid (fun b hb => by obtain rfl := Option.some.inj (show some w.heap.size = some b from hb); exact hapart), hB2⟩
  case round =>
    clear o2 ol hB2 hapart
    obtain ⟨k, O, hk, rfl, hO, hk30, hS, o, ol, hap, hB⟩ := hrel
    obtain ⟨wk, hwk⟩ : ∃ X, X = wr := ⟨_, rfl⟩
    subst hwk
    have hsz := hB.size
    by_cases hlt : k < LS.length
    · have hlt' : (k : Int) < (LS.length : Int) := by omega
      obtain ⟨gl, cl, el, hlc1, hlc2, hlg, hls, hlcell, hlf⟩ := owns_at ol (by omega)
      obtain ⟨rfl, rfl⟩ : ad = some ⟨gl, 0, none⟩ ∧ cap = cl := by simp at el; exact el
      have cl0 : wk.cell? ⟨gl, k, none⟩ = some (.string (BA LS[k])) := by rw [hlcell k (by omega)]; simp [tS, hlt]
      have hl9 := hmem2.out LS[k] (List.getElem_mem hlt)
      obtain ⟨l, hlk⟩ : ∃ l, LS[k] = l := ⟨_, rfl⟩
      rw [hlk] at cl0 hl9
      have Hlk := hid hlk
      have hlb : (Value.slice (some ⟨gl, 0, none⟩) LS.length cap).ownBlock = some gl := rfl
      clear hlk hlcell hlf el
      have hwp : 1 ≤ (wordsL l).length ∧ (wordsL l).length ≤ 901 := by
        have h9 := (partsL_sum 32 l l.length (Nat.le_refl _)).1
        rw [List.take_of_length_le (Nat.le_refl _)] at h9
        unfold wordsL; simp; omega
      go_wp2_with fail
      refine (spec_l1Words (BA l) _ (by rw [BA_size]; omega)).mono ?_
      rintro e w3 ⟨wv, rfl, ow, b3⟩
      rw [BA_data] at ow
      go_wp2
      go_loopw [10] (fun u wq => ∃ P : List (List UInt8), 1 ≤ P.length ∧ P.length ≤ 901 ∧ wq.ownsRow wk.heap.size 9 1 u P.length (P.map tS) ∧ Hid (∀ j, P.getD j [] = (wordsL l).getD j []) ∧ Hid (∀ p ∈ P, p.length ≤ 900) ∧ Below wk.heap.size wk wq) (fun u _ => 3 - rowLen u)
      case atStart => exact ⟨wordsL l, hwp.1, hwp.2, ow, hid (fun _ => rfl), hid (fun p hp => by have h9 := wordsL_mem l p hp; omega), b3⟩
      case round =>
        clear ow b3 hwp
        obtain ⟨P, hP1, hP9, oP, hg, hpl, hBq⟩ := hrel
        obtain ⟨wq, hwq⟩ : ∃ X, X = wr := ⟨_, rfl⟩
        subst hwq
        have hzq := hBq.size
        obtain ⟨gp, cp, rfl, hpc1, hpc2, hpg, hps, hpcell, hpf⟩ := owns_at oP (by omega)
        by_cases h3 : (P.length : Int) < 3
        · have oA := World.ownsRow.alloc oP (.cells #[.string ⟨#[]⟩] 9)
          clear hpcell hpf
          go_wp2_with (at_builtin; refine wpList_append_flat rfl _ _ 41 rfl wk.heap.size 9 j0 (.string ByteArray.empty) 1 16 Tryd.underlying41 hj hy0 hy1 hy2 rfl (by decide) _ _ _ rfl oA _ 1 [.string ⟨#[]⟩] rfl (Flat.of_owns (owns_lit1 wq 9 (.string ⟨#[]⟩) 0 (Nat.zero_le _))) (by intro c hc; simp at hc; subst hc; rfl) (by unfold maxLen; omega) (by omega) (by simp; omega) ?_)
          intro v2 w4 o4 g4
          have b4 := below_of_mark oA g4 (Nat.le_refl _) (by simp; omega)
          have hB4 : Below wk.heap.size wk w4 := Below.trans (hBq.alloc hzq _) b4
          obtain ⟨a4, c4, rfl, _, _⟩ := owns_form o4
          go_wp2
          go_roundw
          case rel => exact ⟨P ++ [[]], by simp, by simp; omega, by rw [List.length_append, List.map_append]; exact o4, hid (fun j => by rw [get3_snoc]; exact hg.out j), hid (fun p hp => by rcases List.mem_append.1 hp with h | h; exact hpl.out p h; (simp at h; subst h; simp)), hB4⟩
          case measure => simp [rowLen]; omega
        · obtain ⟨p0, p1, p2, pr, rfl⟩ := three (show 3 ≤ P.length by omega)
          have q0 : wq.cell? ⟨gp, 0, none⟩ = some (.string (BA p0)) := by rw [hpcell 0 (by simp)]; rfl
          have q1 : wq.cell? ⟨gp, 1, none⟩ = some (.string (BA p1)) := by rw [hpcell 1 (by simp)]; rfl
          have q2 : wq.cell? ⟨gp, 2, none⟩ = some (.string (BA p2)) := by rw [hpcell 2 (by simp)]; rfl
          have ho0 := hid (show (wordsL l).getD 0 [] = p0 from (hg.out 0).symm)
          have ho1 := hid (show (wordsL l).getD 1 [] = p1 from (hg.out 1).symm)
          have ho2 := hid (show (wordsL l).getD 2 [] = p2 from (hg.out 2).symm)
          have z1 : p1.length ≤ 900 := hpl.out p1 (by simp)
          have z2 : p2.length ≤ 900 := hpl.out p2 (by simp)
          obtain ⟨n9, hn9⟩ : ∃ n9, (p0 :: p1 :: p2 :: pr).length = n9 := ⟨_, rfl⟩
          rw [hn9] at h3 hpc1
          rw [hn9]
          have cq : wq.cell? ⟨gl, k, none⟩ = some (.string (BA l)) := (hBq.cell (p := ⟨gl, k, none⟩) hls).trans cl0
          have hglq : gl < wq.heap.size := Nat.lt_of_lt_of_le hls hzq
          have x0 : (0 : Int) < (n9 : Int) := by omega
          have x1 : (1 : Int) < (n9 : Int) := by omega
          have x2 : (2 : Int) < (n9 : Int) := by omega
          have y0 : 0 < n9 := by omega
          have y1 : 1 < n9 := by omega
          have y2 : 2 < n9 := by omega
          clear hn9 hpcell hpf oP hg hpl cl0 hP1 hP9 hpg
          obtain ⟨V, hV⟩ : ∃ X, wq.alloc (.cells #[.int .i64 0, .int .i64 0, .int .i64 0] 37) = X := ⟨_, rfl⟩
          have bxV : BoxF V wq.heap.size [.int .i64 0, .int .i64 0, .int .i64 0] := by rw [← hV]; exact BoxF.alloc _ _ _
          have bV : Below wq.heap.size wq V := by rw [← hV]; exact (Below.refl _ _).alloc (Nat.le_refl _) _
          have HV := hid hV
          clear hV
          go_wp2_with fail
          rw [HV.out]
          go_wp2
          go_loopw [12] (fun i wp => ∃ J : Nat, J ≤ 8 ∧ i = .int .i64 ((J : Int) + 1) ∧ BoxF wp wq.heap.size [.int .i64 (opTo p0 J), .int .i64 0, .int .i64 0] ∧ Below wq.heap.size wq wp) (fun i _ => 9 - (intOf i).toNat)
          case atStart => exact ⟨0, by omega, rfl, bxV, bV⟩
          case round =>
            clear bxV bV HV
            obtain ⟨J, hJ, rfl, bx, hBp⟩ := hrel
            obtain ⟨wp, hwp⟩ : ∃ X, X = wr := ⟨_, rfl⟩
            subst hwp
            have hzp := hBp.size
            by_cases hJ8 : (J : Int) + 1 ≤ 8
            · have u0 := (hBp.cell (p := ⟨gp, 0, none⟩) hps).trans q0
              have hgpp : gp < wp.heap.size := Nat.lt_of_lt_of_le hps hzp
              have bA := (Below.refl wp.heap.size wp).alloc (Nat.le_refl _) (.cells namesV 9)
              have u1 := (bA.cell (p := ⟨gp, 0, none⟩) hgpp).trans u0
              have nc := names_cell wp (J+1) _ (name_at (J+1) (by omega))
              have bx1 := bx.below bA
              have c1 : (wp.alloc (.cells namesV 9)).cell? ⟨wq.heap.size, 0, none⟩ = some (.int .i64 (opTo p0 J)) := bx1.1.2 0 (by simp)
              have f1 := bx1.2 0 (by simp)
              have hcmp := eqS (nmL ((J + 1 : Nat) : Int)) p0
              obtain ⟨X, hX⟩ : ∃ X, BA (nmL ((J + 1 : Nat) : Int)) = X := ⟨_, rfl⟩
              obtain ⟨Y, hY⟩ : ∃ Y, BA p0 = Y := ⟨_, rfl⟩
              rw [hX] at nc hcmp
              rw [hY] at u0 u1 hcmp
              have hop := hid (show opTo p0 (J + 1) = if nmL ((J + 1 : Nat) : Int) = p0 then (J : Int) + 1 else opTo p0 J by
                conv => lhs; unfold opTo
                rw [show ((J + 1 : Nat) : Int) = (J : Int) + 1 by omega])
              have i4 : ((J : Int) + 1).toNat = J + 1 := by omega
              have i5 : (0 : Int) ≤ (J : Int) + 1 := by omega
              have i6 : (J : Int) + 1 < 9 := by omega
              have HbA2 := hid (show Below wq.heap.size wq (wp.alloc (.cells namesV 9)) from hBp.trans (bA.mono hzp))
              have HBX := hid bx1
              have HBx := hid bx
              clear hX hY bA bx1 bx q0
              by_cases hKe : nmL ((J + 1 : Nat) : Int) = p0
              · rw [decide_eq_true hKe] at hcmp
                rw [if_pos hKe] at hop
                clear hKe
                go_wp2_with fail
                go_region_law (first | (go_simp; go_at_call 22; refine (spec_l9Names _).mono ?_; rintro e w9 ⟨rfl, rfl⟩))
                all_goals go_wp2
                all_goals refine ⟨⟨J+1, by omega, by go_num, by rw [hop.out]; exact BoxF.set (HBX.out.below (by repeat (first | exact Below.refl _ _ | refine Below.drew ?_))) 0 (by simp) _, (by repeat (first | exact HbA2.out | refine Below.drew ?_ | refine Below.setCell ?_ (by simp; try omega) _))⟩, by simp [intOf]; omega⟩
              · rw [decide_eq_false hKe] at hcmp
                rw [if_neg hKe] at hop
                clear hKe
                go_wp2_with fail
                go_region_law (first | (go_simp; go_at_call 22; refine (spec_l9Names _).mono ?_; rintro e w9 ⟨rfl, rfl⟩))
                all_goals go_wp2
                all_goals refine ⟨⟨J+1, by omega, by go_num, by rw [hop.out]; exact HBX.out.below (by repeat (first | exact Below.refl _ _ | refine Below.drew ?_)), (by repeat (first | exact hBp | exact HbA2.out | refine Below.drew ?_))⟩, by simp [intOf]; omega⟩
            · obtain rfl : J = 8 := by omega
              have hgpp : gp < wp.heap.size := Nat.lt_of_lt_of_le hps hzp
              have hbp9 : wq.heap.size < wp.heap.size := bx.1.1
              have u1 := (hBp.cell (p := ⟨gp, 1, none⟩) hps).trans q1
              have u2 := (hBp.cell (p := ⟨gp, 2, none⟩) hps).trans q2
              have uk := (hBp.cell (p := ⟨gl, k, none⟩) hglq).trans cq
              have hop := hid (opTo_ok p0)
              have hrg := opTo_rng p0 8
              obtain ⟨op, hopv⟩ : ∃ op, opTo p0 8 = op := ⟨_, rfl⟩
              rw [hopv] at hop bx hrg
              clear hopv q0 q1 q2 cq
              go_wp2_with fail
              refine (spec_l1Number (BA p1) _ (by rw [BA_size]; omega)).mono ?_
              rintro e w5 ⟨a, ba, rfl, ⟨hna, ha1, ha2⟩, b5⟩
              rw [BA_data] at hna
              have bx5 := bx.below b5
              have v2 := (b5.cell (p := ⟨gp, 2, none⟩) hgpp).trans u2
              have vk := (b5.cell (p := ⟨gl, k, none⟩) (Nat.lt_of_lt_of_le hglq hzp)).trans uk
              have B5 := hBp.trans (b5.mono hzp)
              have c51 : w5.cell? ⟨wq.heap.size, 1, none⟩ = some (.int .i64 0) := bx5.1.2 1 (by simp)
              have f51 := bx5.2 1 (by simp)
              have bx6 := bx5.set 1 (by simp) (.int .i64 a)
              have v62 : (w5.setCell ⟨wq.heap.size, 1, none⟩ (.int .i64 a)).cell? ⟨gp, 2, none⟩ = some (.string (BA p2)) := by rw [World.cell?_setCell_other _ _ _ _ (by intro e'; have h9 := congrArg Addr.block e'; simp at h9; omega)]; exact v2
              have v6k : (w5.setCell ⟨wq.heap.size, 1, none⟩ (.int .i64 a)).cell? ⟨gl, k, none⟩ = some (.string (BA l)) := by rw [World.cell?_setCell_other _ _ _ _ (by intro e'; have h9 := congrArg Addr.block e'; simp at h9; omega)]; exact vk
              have B6 : Below wq.heap.size wq (w5.setCell ⟨wq.heap.size, 1, none⟩ (.int .i64 a)) := B5.setCell (p := ⟨wq.heap.size, 1, none⟩) (Nat.le_refl _) _
              have z6 : w5.heap.size = (w5.setCell ⟨wq.heap.size, 1, none⟩ (.int .i64 a)).heap.size := by simp
              have hB56 := hid B6
              have hgp5 : gp < w5.heap.size := Nat.lt_of_lt_of_le hgpp b5.size
              have hgl5 : gl < w5.heap.size := Nat.lt_of_lt_of_le hglq B5.size
              have hb5 : wq.heap.size < w5.heap.size := Nat.lt_of_lt_of_le hbp9 b5.size
              clear bx bx5 u1 u2 uk v2 vk b5 hBp B6
              go_wp2_with fail
              refine (spec_l1Number (BA p2) _ (by rw [BA_size]; omega)).mono ?_
              rintro e w7 ⟨b, bb, rfl, ⟨hnb2, hb1, hb2⟩, b7⟩
              rw [BA_data] at hnb2
              have bx7 := bx6.below b7
              have vk7 := (b7.cell (p := ⟨gl, k, none⟩) (by rw [← z6]; exact hgl5)).trans v6k
              have B7 := hB56.out.trans (b7.mono hB56.out.size)
              have c72 : w7.cell? ⟨wq.heap.size, 2, none⟩ = some (.int .i64 0) := bx7.1.2 2 (by simp)
              have f72 := bx7.2 2 (by simp)
              have bx8 := bx7.set 2 (by simp) (.int .i64 b)
              have v8k : (w7.setCell ⟨wq.heap.size, 2, none⟩ (.int .i64 b)).cell? ⟨gl, k, none⟩ = some (.string (BA l)) := by rw [World.cell?_setCell_other _ _ _ _ (by intro e'; have h9 := congrArg Addr.block e'; simp at h9; omega)]; exact vk7
              have B8 : Below wq.heap.size wq (w7.setCell ⟨wq.heap.size, 2, none⟩ (.int .i64 b)) := B7.setCell (p := ⟨wq.heap.size, 2, none⟩) (Nat.le_refl _) _
              obtain ⟨X8, hX8⟩ : ∃ X, w7.setCell ⟨wq.heap.size, 2, none⟩ (.int .i64 b) = X := ⟨_, rfl⟩
              rw [hX8] at bx8 v8k B8
              have hgl8 : gl < X8.heap.size := Nat.lt_of_lt_of_le hglq B8.size
              have e0 := Ext.cell bx8.1.1 (show X8.cell? ⟨wq.heap.size, 0, none⟩ = some (.int .i64 op) from bx8.1.2 0 (by simp))
              have e1 := Ext.cell bx8.1.1 (show X8.cell? ⟨wq.heap.size, 1, none⟩ = some (.int .i64 a) from bx8.1.2 1 (by simp))
              have e2 := Ext.cell bx8.1.1 (show X8.cell? ⟨wq.heap.size, 2, none⟩ = some (.int .i64 b) from bx8.1.2 2 (by simp))
              have ek := Ext.cell hgl8 v8k
              have HX8 := hid hX8
              have HB8 := hid (hB.trans ((hBq.trans (B8.mono hzq)).mono hsz))
              have HBq8 := hid (hBq.trans (B8.mono hzq))
              have hRd := hid (readI_of (n := nA) (l := l) (k := op) (a := a) (b := b) (by omega) (by rw [ho0.out]; exact hop.out) (by rw [ho1.out]; exact hna) (by rw [ho2.out]; exact hnb2))
              clear hX8 v8k B8 bx8 bx7 bx6 vk7 v62 v6k B7 b7 hna hnb2 hB56 z6 c51 f51
              go_wp2_with fail
              rw [HX8.out]
              clear c72 f72
              have hrR := hid (show readC s.data.toList = readFrom nA rest (LS.drop k) k O from Hy.out.trans hS.out)
              by_cases k30 : k = 30
              · have g30 : ((k : Int) == 30) = true := by rw [k30]; rfl
                have Hn := hid (hrR.out.trans (readFrom_30 hlt k30))
                have hI : instrOk ⟨op, a, b⟩ nA = instrOk ⟨op, a, b⟩ nA := rfl
                have hL : BA (lineL ⟨op, a, b⟩) = BA (lineL ⟨op, a, b⟩) := rfl
                clear k30
                refine wp_region_ext X8 (Below.refl _ _) (by kernel_rfl) (by kernel_rfl) ?_
                repeat (go_big_quiet_step (first | (go_at_call 24; exact call_ext _ (spec_l9InstrIs ⟨op, a, b⟩ nA _ _ hI)) | (go_at_call 15; exact call_ext _ (spec_l9LineIs ⟨op, a, b⟩ nA _ _ hI (by omega) hL))))
                refine wpQuiet_nil ?_; rintro _ ⟨E, rfl⟩
                have bE := hid (HB8.out.trans (E.h.mono HB8.out.size))
                go_wp2
                go_ret3
                exact ⟨readR_of Hn.out rfl (World.ownsRow_made _ _ _ bE.out.size (by decide) rfl), bE.out.alloc bE.out.size _⟩
              have g30 : ((k : Int) == 30) = false := beq_eq_false_iff_ne.mpr (by omega)
              cases hI : instrOk ⟨op, a, b⟩ nA with
              | false =>
                have Hn := hid (hrR.out.trans (readFrom_no hlt (by rw [Hlk.out, hRd.out, if_neg (by rw [hI]; exact fun h => Bool.noConfusion h.1)])))
                have hL : BA (lineL ⟨op, a, b⟩) = BA (lineL ⟨op, a, b⟩) := rfl
                refine wp_region_ext X8 (Below.refl _ _) (by kernel_rfl) (by kernel_rfl) ?_
                repeat (go_big_quiet_step (first | (go_at_call 24; exact call_ext _ (spec_l9InstrIs ⟨op, a, b⟩ nA _ _ hI)) | (go_at_call 15; exact call_ext _ (spec_l9LineIs ⟨op, a, b⟩ nA _ _ hI (by omega) hL))))
                refine wpQuiet_nil ?_; rintro _ ⟨E, rfl⟩
                have bE := hid (HB8.out.trans (E.h.mono HB8.out.size))
                go_wp2
                go_ret3
                exact ⟨readR_of Hn.out rfl (World.ownsRow_made _ _ _ bE.out.size (by decide) rfl), bE.out.alloc bE.out.size _⟩
              | true =>
                obtain ⟨L1, hL⟩ : ∃ X, BA (lineL ⟨op, a, b⟩) = X := ⟨_, rfl⟩
                obtain ⟨Y1, hY⟩ : ∃ X, BA l = X := ⟨_, rfl⟩
                have hcmp := eqS (lineL ⟨op, a, b⟩) l
                rw [hL, hY] at hcmp
                rw [hY] at ek
                rw [hY]
                clear hY
                by_cases hll : lineL ⟨op, a, b⟩ = l
                · have hcn : (L1.toList != Y1.toList) = false := by rw [bne, hcmp, decide_eq_true hll]; rfl
                  have hcn2 : (L1.toList == Y1.toList) = true := by rw [hcmp, decide_eq_true hll]
                  have Hst := hid (hS.out.trans (readFrom_step hlt k30 (show readI LS[k] nA = some ⟨op, a, b⟩ by rw [Hlk.out, hRd.out, if_pos ⟨hI, hll⟩])))
                  clear hcmp hll
                  refine wp_region_ext X8 (Below.refl _ _) (by kernel_rfl) (by kernel_rfl) ?_
                  repeat (go_big_quiet_step (first | (go_at_call 24; exact call_ext _ (spec_l9InstrIs ⟨op, a, b⟩ nA _ _ hI)) | (go_at_call 15; exact call_ext _ (spec_l9LineIs ⟨op, a, b⟩ nA _ _ hI (by omega) hL))))
                  refine wpQuiet_nil ?_; rintro _ ⟨E, rfl⟩
                  have bE := hid (HBq8.out.trans (E.h.mono HBq8.out.size))
                  have hzE := bE.out.size
                  have d0 := e0 E
                  have d1 := e1 E
                  have d2 := e2 E
                  have oA := World.ownsRow.alloc (owns_below o bE.out) (.cells #[.int .i64 op, .int .i64 a, .int .i64 b] 37)
                  have olA := World.ownsRow.alloc (owns_below ol bE.out) (.cells #[.int .i64 op, .int .i64 a, .int .i64 b] 37)
                  have bA9 := hid (hB.trans ((bE.out.alloc hzE (.cells #[.int .i64 op, .int .i64 a, .int .i64 b] 37)).mono hsz))
                  have hgl9 : gl < (E.w.alloc (.cells #[.int .i64 op, .int .i64 a, .int .i64 b] 37)).heap.size := Nat.lt_of_lt_of_le hls (by simp; omega)
                  clear e0 e1 e2 ek
                  go_wp2_with (at_builtin; refine wpList_append_at rfl _ _ 26 rfl w.heap.size 37 i0 (.agg #[.int .i64 0, .int .i64 0, .int .i64 0]) 3 24 Tryd.underlying26 hi hz0 hz1 hz2 rfl (by decide) _ k _ rfl oA _ 1 [.int .i64 op, .int .i64 a, .int .i64 b] rfl (Flat.of_owns (owns_litN E.w 37 3 1 #[.int .i64 op, .int .i64 a, .int .i64 b] 0 (Nat.zero_le _) rfl (by decide))) (by decide) (by intro c hc; simp at hc; rcases hc with rfl | rfl | rfl <;> rfl) (by unfold maxLen; omega) (by omega) (by simp; omega) ?_)
                  intro v9 w9 o9 g9 p9
                  have bb9 := below_of_mark oA g9 (Nat.le_refl _) (by simp; omega)
                  have hB9 := hid (bA9.out.trans bb9)
                  have ol9 := World.ownsRow.kept olA g9 (.inr (fun e => hap.out gl (e.symm.trans hlb) hlb))
                  have hap9 := hid (fun (b9 : Nat) (hb9 : v9.ownBlock = some b9) (e9 : (Value.slice (some ⟨gl, 0, none⟩) LS.length cap).ownBlock = some b9) => by
                    rcases p9 b9 hb9 with h | h
                    · exact hap.out b9 h e9
                    · have e10 : gl = b9 := Option.some.inj (hlb.symm.trans e9)
                      omega)
                  go_wp2
                  go_roundw
                  case rel => exact ⟨k + 1, O ++ [⟨op, a, b⟩], by omega, by go_num, by simp; omega, by omega, Hst, by rw [List.flatMap_append]; exact o9, ol9, hap9, hB9.out⟩
                  case measure => simp [intOf]; omega
                · have hcn : (L1.toList != Y1.toList) = true := by rw [bne, hcmp, decide_eq_false hll]; rfl
                  have hcn2 : (L1.toList == Y1.toList) = false := by rw [hcmp, decide_eq_false hll]
                  have Hn := hid (hrR.out.trans (readFrom_no hlt (by rw [Hlk.out, hRd.out, if_neg (fun h => hll h.2)])))
                  clear hcmp hll
                  refine wp_region_ext X8 (Below.refl _ _) (by kernel_rfl) (by kernel_rfl) ?_
                  repeat (go_big_quiet_step (first | (go_at_call 24; exact call_ext _ (spec_l9InstrIs ⟨op, a, b⟩ nA _ _ hI)) | (go_at_call 15; exact call_ext _ (spec_l9LineIs ⟨op, a, b⟩ nA _ _ hI (by omega) hL))))
                  refine wpQuiet_nil ?_; rintro _ ⟨E, rfl⟩
                  have bE := hid (HB8.out.trans (E.h.mono HB8.out.size))
                  go_wp2
                  go_ret3
                  exact ⟨readR_of Hn.out rfl (World.ownsRow_made _ _ _ bE.out.size (by decide) rfl), bE.out.alloc bE.out.size _⟩
    · obtain rfl : k = LS.length := by omega
      have hrR := hid (show readC s.data.toList = if rest = [] then (O, -1, true) else ([], (LS.length : Int), false) from (Hy.out.trans hS.out).trans (readFrom_end (by omega)))
      by_cases hr : rest = []
      · have Hn := hid (hrR.out.trans (if_pos hr))
        rw [decide_eq_true hr] at hre
        clear hr
        go_wp2
        go_ret3
        exact ⟨readR_of Hn.out rfl (by rw [hO]; exact o), hB⟩
      · have Hn := hid (hrR.out.trans (if_neg hr))
        rw [decide_eq_false hr] at hre
        clear hr
        go_wp2
        go_ret3
        exact ⟨readR_of Hn.out rfl (World.ownsRow_made _ _ _ hB.size (by decide) rfl), hB.alloc hB.size _⟩
end Go.Proofs.YtikiaffgjpddeaaDoor
