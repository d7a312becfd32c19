/- Chapter 9's program: Touches. (printed by tools/mk_i9t.py) -/
import Derived.Test.YtjcaagkppalndaaI9b
import Derived.Test.YtjcaagkppalndaaS9b
import Derived.Stop.Asserts
namespace Go.Proofs.Ytjcaagkppalndaa
set_option maxRecDepth 100000
open Go.RowKit Go.Proofs Go.Own
open Go Go.BigFrame Go.Shelf
set_option linter.unusedVariables false
set_option linter.unusedSimpArgs false
def marksAt (xs : List Instr) (m : Nat) : List Value := (List.range 8).map fun j : Nat => Value.bool (namedAt xs (j : Int) m)
theorem marksAt_zero (xs : List Instr) : marksAt xs 0 = [.bool false, .bool false, .bool false, .bool false, .bool false, .bool false, .bool false, .bool false] := rfl
theorem marksAt_all (xs : List Instr) : marksAt xs xs.length = [.bool (named xs 0), .bool (named xs 1), .bool (named xs 2), .bool (named xs 3), .bool (named xs 4), .bool (named xs 5), .bool (named xs 6), .bool (named xs 7)] := rfl
theorem marksAt_len (xs : List Instr) (m : Nat) : (marksAt xs m).length = 8 := by simp [marksAt]
theorem marksAt_stay (xs : List Instr) (m : Nat) (h : m < xs.length) (hn : ∀ o : Int, names xs[m] o = false) : marksAt xs (m+1) = marksAt xs m := by
  unfold marksAt
  congr 1
  funext j
  rw [namedAt_succ xs _ m h, hn, Bool.or_false]
theorem marksAt_set (xs : List Instr) (m : Nat) (h : m < xs.length) (o : Nat) (hn : ∀ q : Int, names xs[m] q = ((o : Int) == q)) : marksAt xs (m+1) = (marksAt xs m).set o (.bool true) := by
  apply List.ext_getElem
  · simp [marksAt_len]
  · intro j h1 h2
    rw [List.getElem_set]
    simp only [marksAt, List.getElem_map, List.getElem_range]
    rw [namedAt_succ xs _ m h, hn]
    by_cases e : o = j
    · subst e; simp
    · rw [if_neg e, show ((o : Int) == (j : Int)) = false by simp; omega, Bool.or_false]
theorem ta_read (v : Value) (w : World) : (Instr.typeAssert (.iface 57 v) 46 43 true).run Try.prog w = .ok (.tuple #[.iface 57 v, .bool true]) w := run_typeAssert_hasB Try.underlying43 (by kernel_rfl) v _ w
theorem io_read (v : Value) (w : World) : (method (Try.prog.types.size + Made.depth) 57 v "loop.example/g00087/impl.object").run Try.prog w = .ok (49, v) w := by kernel_rfl
theorem obj_read (a0 a1 a2 : Int) (w : World) : Calls Try.prog 49 #[.agg #[.int .i64 a0, .int .i64 a1, .int .i64 a2]] w fun e w' => e = .returned (.int .i64 a2) ∧ Below w.heap.size w w' := by
  go_enter Try.func49, Try.ntmps49
  go_wp2
  go_ret
  exact ⟨rfl, (Below.refl _ _).alloc (Nat.le_refl _) _⟩
theorem ta_write (v : Value) (w : World) : (Instr.typeAssert (.iface 58 v) 46 43 true).run Try.prog w = .ok (.tuple #[.iface 58 v, .bool true]) w := run_typeAssert_hasB Try.underlying43 (by kernel_rfl) v _ w
theorem io_write (v : Value) (w : World) : (method (Try.prog.types.size + Made.depth) 58 v "loop.example/g00087/impl.object").run Try.prog w = .ok (51, v) w := by kernel_rfl
theorem obj_write (a0 a1 a2 : Int) (w : World) : Calls Try.prog 51 #[.agg #[.int .i64 a0, .int .i64 a1, .int .i64 a2]] w fun e w' => e = .returned (.int .i64 a1) ∧ Below w.heap.size w w' := by
  go_enter Try.func51, Try.ntmps51
  go_wp2
  go_ret
  exact ⟨rfl, (Below.refl _ _).alloc (Nat.le_refl _) _⟩
theorem ta_set (v : Value) (w : World) : (Instr.typeAssert (.iface 59 v) 46 43 true).run Try.prog w = .ok (.tuple #[.nilIface, .bool false]) w := run_typeAssert_lacksB Try.underlying43 (by kernel_rfl) (by kernel_rfl) v _ w
theorem ta_add (v : Value) (w : World) : (Instr.typeAssert (.iface 60 v) 46 43 true).run Try.prog w = .ok (.tuple #[.nilIface, .bool false]) w := run_typeAssert_lacksB Try.underlying43 (by kernel_rfl) (by kernel_rfl) v _ w
theorem ta_if (v : Value) (w : World) : (Instr.typeAssert (.iface 61 v) 46 43 true).run Try.prog w = .ok (.tuple #[.nilIface, .bool false]) w := run_typeAssert_lacksB Try.underlying43 (by kernel_rfl) (by kernel_rfl) v _ w
theorem ta_commit (v : Value) (w : World) : (Instr.typeAssert (.iface 62 v) 46 43 true).run Try.prog w = .ok (.tuple #[.nilIface, .bool false]) w := run_typeAssert_lacksB Try.underlying43 (by kernel_rfl) (by kernel_rfl) v _ w
theorem ta_abort (v : Value) (w : World) : (Instr.typeAssert (.iface 63 v) 46 43 true).run Try.prog w = .ok (.tuple #[.nilIface, .bool false]) w := run_typeAssert_lacksB Try.underlying43 (by kernel_rfl) (by kernel_rfl) v _ w
theorem ta_go (v : Value) (w : World) : (Instr.typeAssert (.iface 64 v) 46 43 true).run Try.prog w = .ok (.tuple #[.nilIface, .bool false]) w := run_typeAssert_lacksB Try.underlying43 (by kernel_rfl) (by kernel_rfl) v _ w
theorem op_of {e : Instr} {n : Int} (h : instrOk e n = true) : e.op_ = 1 ∨ e.op_ = 2 ∨ e.op_ = 3 ∨ e.op_ = 4 ∨ e.op_ = 5 ∨ e.op_ = 6 ∨ e.op_ = 7 ∨ e.op_ = 8 := by
  unfold instrOk at h
  repeat (split at h; · omega)
  cases h
theorem obj_read_in {a1 a2 n : Int} (h : instrOk ⟨1, a1, a2⟩ n = true) : 0 ≤ a2 ∧ a2 ≤ 7 := by simp [instrOk, inB] at h; omega
theorem obj_write_in {a1 a2 n : Int} (h : instrOk ⟨2, a1, a2⟩ n = true) : 0 ≤ a1 ∧ a1 ≤ 7 := by simp [instrOk, inB] at h; omega
theorem names_eta (op a b : Int) (o : Int) : names ⟨op, a, b⟩ o = ((op == 1 && b == o) || (op == 2 && a == o)) := rfl
theorem wpList_index {P : Program} {w : World} {ops : Array Oper} {rest : List Oper} {o : Oper} {a : Act} {Q : Exit → Act → World → Prop} (hgd : o.guard = none) (t : TypeId) (x i : Operand) (ho : o.op = .index t x i)
    (xv iv rv : Value) (hx : a.eval x = xv) (hi : a.eval i = iv) (hrun : ∀ w : World, (Instr.index t xv iv).run P w = .ok rv w) (h : wpList P ops Q rest (a.put o.dst rv) w) : wpList P ops Q (o :: rest) a w := by
  refine wpList_plain hgd fun K hK => ?_
  unfold Oper.wp
  simp [execOp, ho, hx, hi, hrun w, Result.andThen]
  exact hK _ _ h
set_option maxHeartbeats 8000000 in
theorem impl_Touches0 (v : Value) (xs : List Instr) (w : World) (h : Instrs w v xs) :
    Calls Try.prog 12 #[v] w fun e w' => ∃ v' : Value, e = .returned (.tuple #[v', .bool (progOk xs)]) ∧ w'.ownsRow w.heap.size 3 1 v' (touchL xs).length ((touchL xs).flatMap encI) ∧ Below w.heap.size w w' := by
  obtain ⟨i0, hi, hz0, hz1, hz2⟩ := info_parts infoInt5
  have h0 := hid h
  obtain ⟨ad, cap, rfl, hl, hm, hc⟩ := h.open
  clear h
  have hlen : xs.length ≤ 9223372036854775807 := by omega
  have HC := hid hc
  clear hc
  cases hok : progOk xs with
  | false =>
    have HT := hid (show touchL xs = [] by unfold touchL; rw [hok]; rfl)
    go_enter Try.func12, Try.ntmps12
    go_wp2_with fail
    refine (impl_ProgOk _ xs _ h0.out).mono ?_
    rintro e w2 ⟨rfl, b2⟩
    rw [hok]
    go_wp2
    go_ret2
    exact ⟨_, rfl, by rw [HT.out]; exact World.ownsRow_nil _ _ _ _, b2⟩
  | true =>
    have HT := hid (show touchL xs = touchTo xs 8 by unfold touchL; rw [hok]; rfl)
    have hget := hid (progOk_get hok)
    go_enter Try.func12, Try.ntmps12
    go_wp2_with fail
    refine (impl_ProgOk _ xs _ h0.out).mono ?_
    rintro e w2 ⟨rfl, b2⟩
    rw [hok]
    obtain ⟨W1, hW1⟩ : ∃ X, w2.alloc (.cells #[.bool false, .bool false, .bool false, .bool false, .bool false, .bool false, .bool false, .bool false] 41) = X := ⟨_, rfl⟩
    have bx : BoxF W1 w2.heap.size (marksAt xs 0) := by rw [← hW1]; exact BoxF.alloc _ _ _
    have hB1 : Below w.heap.size w W1 := by rw [← hW1]; exact b2.alloc b2.size _
    have hle : w.heap.size ≤ w2.heap.size := b2.size
    have HW1 := hid hW1
    clear hW1 h0
    go_wp2_with fail
    rw [HW1.out]
    go_loopw [17] (fun i wr => ∃ m : Nat, m ≤ xs.length ∧ i = .int .i64 m ∧ BoxF wr w2.heap.size (marksAt xs m) ∧ Below w.heap.size w wr) (fun i _ => xs.length - (intOf i).toNat)
    case atStart => exact ⟨0, by omega, rfl, bx, hB1⟩
    case round =>
      clear bx hB1
      obtain ⟨m, hm2, rfl, bx, hB⟩ := hrel
      by_cases hlt : m < xs.length
      · obtain ⟨bb, off, rfl, hbs, c0, c1, c2⟩ := HC.out m hlt
        obtain ⟨e0, e1, e2⟩ := cells3 hB hbs c0 c1 c2
        clear c0 c1 c2 HC
        have hI := hget.out m hlt
        have hst := hid (marksAt_stay xs m hlt)
        have hse := hid (marksAt_set xs m hlt)
        obtain ⟨⟨a0, a1, a2⟩, hE⟩ : ∃ x, xs[m] = x := ⟨_, rfl⟩
        rw [hE] at hI hst hse
        simp only [hE] at e0 e1 e2
        clear hE hget
        obtain ⟨V, hV⟩ : ∃ X, wr.alloc (.cells #[.int .i64 a0, .int .i64 a1, .int .i64 a2] 37) = X := ⟨_, rfl⟩
        have bV : Below wr.heap.size wr V := by rw [← hV]; exact (Below.refl _ _).alloc (Nat.le_refl _) _
        have k0 : V.cell? ⟨wr.heap.size, 0, none⟩ = some (.int .i64 a0) := by rw [← hV]; simp [go_sem]
        have k1 : V.cell? ⟨wr.heap.size, 1, none⟩ = some (.int .i64 a1) := by rw [← hV]; simp [go_sem]
        have k2 : V.cell? ⟨wr.heap.size, 2, none⟩ = some (.int .i64 a2) := by rw [← hV]; simp [go_sem]
        have HBV := hid (show Below w.heap.size w V from hB.trans (bV.mono hB.size))
        have bxV := bx.below bV
        have HV := hid hV
        clear hV bV bx hB
        have ho := op_of hI
        dsimp only at ho
        rcases ho with rfl | rfl | rfl | rfl | rfl | rfl | rfl | rfl
        · have hT : typed ⟨1, a1, a2⟩ = .iface 57 (.agg #[.int .i64 1, .int .i64 a1, .int .i64 a2]) := rfl
          have hta := ta_read (.agg #[.int .i64 1, .int .i64 a1, .int .i64 a2])
          obtain ⟨oo, hoo⟩ := Int.eq_ofNat_of_zero_le (obj_read_in hI).1
          have ho8 : oo < 8 := by have := (obj_read_in hI).2; omega
          subst hoo
          have HN := hid (hse.out oo (fun q => by rw [names_eta]; simp))
          clear hI hst hse
          go_wp2_with fail
          rw [HV.out]
          clear e0 e1 e2
          go_wp2_with fail
          refine (impl_instructionOf ⟨1, a1, (oo : Int)⟩ _).mono ?_
          rintro e w3 ⟨rfl, b3⟩
          rw [hT]
          have B3 := hid (HBV.out.trans (b3.mono HBV.out.size))
          have bx3 := bxV.below b3
          clear k0 k1 k2 hT b3 bxV
          have hio := io_read (.agg #[.int .i64 1, .int .i64 a1, .int .i64 (oo : Int)])
          go_wp2_with fail
          refine (obj_read _ _ _ _).mono ?_
          rintro e w4 ⟨rfl, b4⟩
          have B4 := hid (B3.out.trans (b4.mono B3.out.size))
          have bx4 := bx3.below b4
          have f4 := bx4.2 oo (by rw [marksAt_len]; exact ho8)
          have g4 : w4.cell? ⟨w2.heap.size, oo, none⟩ = some (.bool (namedAt xs (oo : Int) m)) := by rw [bx4.1.2 oo (by rw [marksAt_len]; exact ho8)]; simp [marksAt, ho8]
          have bx5 := bx4.set oo (by rw [marksAt_len]; exact ho8) (.bool true)
          have B5 := hid (B4.out.setCell (p := ⟨w2.heap.size, oo, none⟩) hle (.bool true))
          have ho8i : (oo : Int) < 8 := by omega
          clear bx3 bx4 b4
          go_wp2
          go_roundw
          case rel => exact ⟨m+1, by omega, by go_num, by rw [HN.out]; exact bx5, B5.out⟩
          case measure => simp [intOf]; omega
        · have hT : typed ⟨2, a1, a2⟩ = .iface 58 (.agg #[.int .i64 2, .int .i64 a1, .int .i64 a2]) := rfl
          have hta := ta_write (.agg #[.int .i64 2, .int .i64 a1, .int .i64 a2])
          obtain ⟨oo, hoo⟩ := Int.eq_ofNat_of_zero_le (obj_write_in hI).1
          have ho8 : oo < 8 := by have := (obj_write_in hI).2; omega
          subst hoo
          have HN := hid (hse.out oo (fun q => by rw [names_eta]; simp))
          clear hI hst hse
          go_wp2_with fail
          rw [HV.out]
          clear e0 e1 e2
          go_wp2_with fail
          refine (impl_instructionOf ⟨2, (oo : Int), a2⟩ _).mono ?_
          rintro e w3 ⟨rfl, b3⟩
          rw [hT]
          have B3 := hid (HBV.out.trans (b3.mono HBV.out.size))
          have bx3 := bxV.below b3
          clear k0 k1 k2 hT b3 bxV
          have hio := io_write (.agg #[.int .i64 2, .int .i64 (oo : Int), .int .i64 a2])
          go_wp2_with fail
          refine (obj_write _ _ _ _).mono ?_
          rintro e w4 ⟨rfl, b4⟩
          have B4 := hid (B3.out.trans (b4.mono B3.out.size))
          have bx4 := bx3.below b4
          have f4 := bx4.2 oo (by rw [marksAt_len]; exact ho8)
          have g4 : w4.cell? ⟨w2.heap.size, oo, none⟩ = some (.bool (namedAt xs (oo : Int) m)) := by rw [bx4.1.2 oo (by rw [marksAt_len]; exact ho8)]; simp [marksAt, ho8]
          have bx5 := bx4.set oo (by rw [marksAt_len]; exact ho8) (.bool true)
          have B5 := hid (B4.out.setCell (p := ⟨w2.heap.size, oo, none⟩) hle (.bool true))
          have ho8i : (oo : Int) < 8 := by omega
          clear bx3 bx4 b4
          go_wp2
          go_roundw
          case rel => exact ⟨m+1, by omega, by go_num, by rw [HN.out]; exact bx5, B5.out⟩
          case measure => simp [intOf]; omega
        · have hT : typed ⟨3, a1, a2⟩ = .iface 59 (.agg #[.int .i64 3, .int .i64 a1, .int .i64 a2]) := rfl
          have hta := ta_set (.agg #[.int .i64 3, .int .i64 a1, .int .i64 a2])
          have HN := hid (hst.out (fun q => by rw [names_eta]; simp))
          clear hI hst hse
          go_wp2_with fail
          rw [HV.out]
          clear e0 e1 e2
          go_wp2_with fail
          refine (impl_instructionOf ⟨3, a1, a2⟩ _).mono ?_
          rintro e w3 ⟨rfl, b3⟩
          rw [hT]
          have B3 := hid (HBV.out.trans (b3.mono HBV.out.size))
          have bx3 := bxV.below b3
          clear k0 k1 k2 hT b3 bxV
          go_wp2
          go_roundw
          case rel => exact ⟨m+1, by omega, by go_num, by rw [HN.out]; exact bx3, B3.out⟩
          case measure => simp [intOf]; omega
        · have hT : typed ⟨4, a1, a2⟩ = .iface 60 (.agg #[.int .i64 4, .int .i64 a1, .int .i64 a2]) := rfl
          have hta := ta_add (.agg #[.int .i64 4, .int .i64 a1, .int .i64 a2])
          have HN := hid (hst.out (fun q => by rw [names_eta]; simp))
          clear hI hst hse
          go_wp2_with fail
          rw [HV.out]
          clear e0 e1 e2
          go_wp2_with fail
          refine (impl_instructionOf ⟨4, a1, a2⟩ _).mono ?_
          rintro e w3 ⟨rfl, b3⟩
          rw [hT]
          have B3 := hid (HBV.out.trans (b3.mono HBV.out.size))
          have bx3 := bxV.below b3
          clear k0 k1 k2 hT b3 bxV
          go_wp2
          go_roundw
          case rel => exact ⟨m+1, by omega, by go_num, by rw [HN.out]; exact bx3, B3.out⟩
          case measure => simp [intOf]; omega
        · have hT : typed ⟨5, a1, a2⟩ = .iface 61 (.agg #[.int .i64 5, .int .i64 a1, .int .i64 a2]) := rfl
          have hta := ta_if (.agg #[.int .i64 5, .int .i64 a1, .int .i64 a2])
          have HN := hid (hst.out (fun q => by rw [names_eta]; simp))
          clear hI hst hse
          go_wp2_with fail
          rw [HV.out]
          clear e0 e1 e2
          go_wp2_with fail
          refine (impl_instructionOf ⟨5, a1, a2⟩ _).mono ?_
          rintro e w3 ⟨rfl, b3⟩
          rw [hT]
          have B3 := hid (HBV.out.trans (b3.mono HBV.out.size))
          have bx3 := bxV.below b3
          clear k0 k1 k2 hT b3 bxV
          go_wp2
          go_roundw
          case rel => exact ⟨m+1, by omega, by go_num, by rw [HN.out]; exact bx3, B3.out⟩
          case measure => simp [intOf]; omega
        · have hT : typed ⟨6, a1, a2⟩ = .iface 62 (.agg #[.int .i64 6, .int .i64 a1, .int .i64 a2]) := rfl
          have hta := ta_commit (.agg #[.int .i64 6, .int .i64 a1, .int .i64 a2])
          have HN := hid (hst.out (fun q => by rw [names_eta]; simp))
          clear hI hst hse
          go_wp2_with fail
          rw [HV.out]
          clear e0 e1 e2
          go_wp2_with fail
          refine (impl_instructionOf ⟨6, a1, a2⟩ _).mono ?_
          rintro e w3 ⟨rfl, b3⟩
          rw [hT]
          have B3 := hid (HBV.out.trans (b3.mono HBV.out.size))
          have bx3 := bxV.below b3
          clear k0 k1 k2 hT b3 bxV
          go_wp2
          go_roundw
          case rel => exact ⟨m+1, by omega, by go_num, by rw [HN.out]; exact bx3, B3.out⟩
          case measure => simp [intOf]; omega
        · have hT : typed ⟨7, a1, a2⟩ = .iface 63 (.agg #[.int .i64 7, .int .i64 a1, .int .i64 a2]) := rfl
          have hta := ta_abort (.agg #[.int .i64 7, .int .i64 a1, .int .i64 a2])
          have HN := hid (hst.out (fun q => by rw [names_eta]; simp))
          clear hI hst hse
          go_wp2_with fail
          rw [HV.out]
          clear e0 e1 e2
          go_wp2_with fail
          refine (impl_instructionOf ⟨7, a1, a2⟩ _).mono ?_
          rintro e w3 ⟨rfl, b3⟩
          rw [hT]
          have B3 := hid (HBV.out.trans (b3.mono HBV.out.size))
          have bx3 := bxV.below b3
          clear k0 k1 k2 hT b3 bxV
          go_wp2
          go_roundw
          case rel => exact ⟨m+1, by omega, by go_num, by rw [HN.out]; exact bx3, B3.out⟩
          case measure => simp [intOf]; omega
        · have hT : typed ⟨8, a1, a2⟩ = .iface 64 (.agg #[.int .i64 8, .int .i64 a1, .int .i64 a2]) := rfl
          have hta := ta_go (.agg #[.int .i64 8, .int .i64 a1, .int .i64 a2])
          have HN := hid (hst.out (fun q => by rw [names_eta]; simp))
          clear hI hst hse
          go_wp2_with fail
          rw [HV.out]
          clear e0 e1 e2
          go_wp2_with fail
          refine (impl_instructionOf ⟨8, a1, a2⟩ _).mono ?_
          rintro e w3 ⟨rfl, b3⟩
          rw [hT]
          have B3 := hid (HBV.out.trans (b3.mono HBV.out.size))
          have bx3 := bxV.below b3
          clear k0 k1 k2 hT b3 bxV
          go_wp2
          go_roundw
          case rel => exact ⟨m+1, by omega, by go_num, by rw [HN.out]; exact bx3, B3.out⟩
          case measure => simp [intOf]; omega
      · obtain rfl : m = xs.length := by omega
        clear HC hget
        rw [marksAt_all] at bx
        have g0 : wr.cell? ⟨w2.heap.size, 0, none⟩ = some (.bool (named xs 0)) := bx.1.2 0 (by simp)
        have g1 : wr.cell? ⟨w2.heap.size, 1, none⟩ = some (.bool (named xs 1)) := bx.1.2 1 (by simp)
        have g2 : wr.cell? ⟨w2.heap.size, 2, none⟩ = some (.bool (named xs 2)) := bx.1.2 2 (by simp)
        have g3 : wr.cell? ⟨w2.heap.size, 3, none⟩ = some (.bool (named xs 3)) := bx.1.2 3 (by simp)
        have g4 : wr.cell? ⟨w2.heap.size, 4, none⟩ = some (.bool (named xs 4)) := bx.1.2 4 (by simp)
        have g5 : wr.cell? ⟨w2.heap.size, 5, none⟩ = some (.bool (named xs 5)) := bx.1.2 5 (by simp)
        have g6 : wr.cell? ⟨w2.heap.size, 6, none⟩ = some (.bool (named xs 6)) := bx.1.2 6 (by simp)
        have g7 : wr.cell? ⟨w2.heap.size, 7, none⟩ = some (.bool (named xs 7)) := bx.1.2 7 (by simp)
        have oN : wr.ownsRow w.heap.size 3 1 (.slice none 0 0) 0 [] := World.ownsRow_nil _ _ _ _
        clear bx
        go_wp2
        go_loopw [9, 33] (fun s i wq => ∃ k : Nat, k ≤ 8 ∧ i = .int .i64 k ∧ wq.ownsRow w.heap.size 3 1 s (touchTo xs k).length ((touchTo xs k).flatMap encI) ∧ Below w.heap.size w wq) (fun _ i _ => 8 - (intOf i).toNat)
        case atStart => exact ⟨0, by omega, rfl, oN, hB⟩
        case round =>
          clear oN hB g0 g1 g2 g3 g4 g5 g6 g7
          obtain ⟨k, hk, rfl, o, hB⟩ := hrel
          have hle9 := touchTo_len xs k
          have hsz := hB.size
          by_cases hlt8 : (k : Int) < 8
          · have hs := touchTo_succ xs k
            have hk8 : k = 0 ∨ k = 1 ∨ k = 2 ∨ k = 3 ∨ k = 4 ∨ k = 5 ∨ k = 6 ∨ k = 7 := by omega
            rcases hk8 with rfl | rfl | rfl | rfl | rfl | rfl | rfl | rfl
            · have hix : ∀ w : World, (Instr.index 41 (.agg #[.bool (named xs 0), .bool (named xs 1), .bool (named xs 2), .bool (named xs 3), .bool (named xs 4), .bool (named xs 5), .bool (named xs 6), .bool (named xs 7)]) (.int .i64 ((0 : Nat) : Int))).run Try.prog w = .ok (.bool (named xs 0)) w := fun _ => by kernel_rfl
              cases hN : named xs 0 with
              | false =>
                have hs' : touchTo xs (0 + 1) = touchTo xs 0 := by rw [hs, show named xs ((0 : Nat) : Int) = false from hN]; simp
                clear hs
                rw [hN] at hix
                go_wp2_with (refine wpList_index rfl 41 (.tmp 32) (.tmp 33) rfl _ _ _ rfl rfl hix ?_)
                go_roundw
                case rel => exact ⟨0 + 1, by omega, by go_num, by rw [hs']; exact o, hB⟩
                case measure => simp [intOf]
              | true =>
                have hs' : touchTo xs (0 + 1) = touchTo xs 0 ++ [0] := by rw [hs, show named xs ((0 : Nat) : Int) = true from hN]; simp
                clear hs
                have oA := World.ownsRow.alloc o (.cells #[.int .i64 0] 3)
                rw [hN] at hix
                go_wp2_with (first | (refine wpList_index rfl 41 (.tmp 32) (.tmp 33) rfl _ _ _ rfl rfl hix ?_) | (at_builtin; refine wpList_append_flat rfl _ _ 29 rfl w.heap.size 3 i0 (.int .i64 0) 1 8 Try.underlying29 hi hz0 hz1 hz2 rfl (by decide) _ _ _ rfl oA _ 1 [.int .i64 0] rfl (Flat.of_owns (owns_lit1 _ 3 (.int .i64 0) 0 (Nat.zero_le _))) (by intro c hc; simp at hc; subst hc; rfl) (by unfold maxLen; omega) (by omega) (by simp; omega) ?_))
                intro v2 w3 o2 g2
                have bb2 := below_of_mark oA g2 (Nat.le_refl _) (by simp; omega)
                have hB2 : Below w.heap.size w w3 := Below.trans (hB.alloc hsz _) bb2
                go_wp2
                go_roundw
                case rel => exact ⟨0 + 1, by omega, by go_num, by rw [hs', encI_snoc, List.length_append]; exact o2, hB2⟩
                case measure => simp [intOf]
            · have hix : ∀ w : World, (Instr.index 41 (.agg #[.bool (named xs 0), .bool (named xs 1), .bool (named xs 2), .bool (named xs 3), .bool (named xs 4), .bool (named xs 5), .bool (named xs 6), .bool (named xs 7)]) (.int .i64 ((1 : Nat) : Int))).run Try.prog w = .ok (.bool (named xs 1)) w := fun _ => by kernel_rfl
              cases hN : named xs 1 with
              | false =>
                have hs' : touchTo xs (1 + 1) = touchTo xs 1 := by rw [hs, show named xs ((1 : Nat) : Int) = false from hN]; simp
                clear hs
                rw [hN] at hix
                go_wp2_with (refine wpList_index rfl 41 (.tmp 32) (.tmp 33) rfl _ _ _ rfl rfl hix ?_)
                go_roundw
                case rel => exact ⟨1 + 1, by omega, by go_num, by rw [hs']; exact o, hB⟩
                case measure => simp [intOf]
              | true =>
                have hs' : touchTo xs (1 + 1) = touchTo xs 1 ++ [1] := by rw [hs, show named xs ((1 : Nat) : Int) = true from hN]; simp
                clear hs
                have oA := World.ownsRow.alloc o (.cells #[.int .i64 1] 3)
                rw [hN] at hix
                go_wp2_with (first | (refine wpList_index rfl 41 (.tmp 32) (.tmp 33) rfl _ _ _ rfl rfl hix ?_) | (at_builtin; refine wpList_append_flat rfl _ _ 29 rfl w.heap.size 3 i0 (.int .i64 0) 1 8 Try.underlying29 hi hz0 hz1 hz2 rfl (by decide) _ _ _ rfl oA _ 1 [.int .i64 1] rfl (Flat.of_owns (owns_lit1 _ 3 (.int .i64 1) 0 (Nat.zero_le _))) (by intro c hc; simp at hc; subst hc; rfl) (by unfold maxLen; omega) (by omega) (by simp; omega) ?_))
                intro v2 w3 o2 g2
                have bb2 := below_of_mark oA g2 (Nat.le_refl _) (by simp; omega)
                have hB2 : Below w.heap.size w w3 := Below.trans (hB.alloc hsz _) bb2
                go_wp2
                go_roundw
                case rel => exact ⟨1 + 1, by omega, by go_num, by rw [hs', encI_snoc, List.length_append]; exact o2, hB2⟩
                case measure => simp [intOf]
            · have hix : ∀ w : World, (Instr.index 41 (.agg #[.bool (named xs 0), .bool (named xs 1), .bool (named xs 2), .bool (named xs 3), .bool (named xs 4), .bool (named xs 5), .bool (named xs 6), .bool (named xs 7)]) (.int .i64 ((2 : Nat) : Int))).run Try.prog w = .ok (.bool (named xs 2)) w := fun _ => by kernel_rfl
              cases hN : named xs 2 with
              | false =>
                have hs' : touchTo xs (2 + 1) = touchTo xs 2 := by rw [hs, show named xs ((2 : Nat) : Int) = false from hN]; simp
                clear hs
                rw [hN] at hix
                go_wp2_with (refine wpList_index rfl 41 (.tmp 32) (.tmp 33) rfl _ _ _ rfl rfl hix ?_)
                go_roundw
                case rel => exact ⟨2 + 1, by omega, by go_num, by rw [hs']; exact o, hB⟩
                case measure => simp [intOf]
              | true =>
                have hs' : touchTo xs (2 + 1) = touchTo xs 2 ++ [2] := by rw [hs, show named xs ((2 : Nat) : Int) = true from hN]; simp
                clear hs
                have oA := World.ownsRow.alloc o (.cells #[.int .i64 2] 3)
                rw [hN] at hix
                go_wp2_with (first | (refine wpList_index rfl 41 (.tmp 32) (.tmp 33) rfl _ _ _ rfl rfl hix ?_) | (at_builtin; refine wpList_append_flat rfl _ _ 29 rfl w.heap.size 3 i0 (.int .i64 0) 1 8 Try.underlying29 hi hz0 hz1 hz2 rfl (by decide) _ _ _ rfl oA _ 1 [.int .i64 2] rfl (Flat.of_owns (owns_lit1 _ 3 (.int .i64 2) 0 (Nat.zero_le _))) (by intro c hc; simp at hc; subst hc; rfl) (by unfold maxLen; omega) (by omega) (by simp; omega) ?_))
                intro v2 w3 o2 g2
                have bb2 := below_of_mark oA g2 (Nat.le_refl _) (by simp; omega)
                have hB2 : Below w.heap.size w w3 := Below.trans (hB.alloc hsz _) bb2
                go_wp2
                go_roundw
                case rel => exact ⟨2 + 1, by omega, by go_num, by rw [hs', encI_snoc, List.length_append]; exact o2, hB2⟩
                case measure => simp [intOf]
            · have hix : ∀ w : World, (Instr.index 41 (.agg #[.bool (named xs 0), .bool (named xs 1), .bool (named xs 2), .bool (named xs 3), .bool (named xs 4), .bool (named xs 5), .bool (named xs 6), .bool (named xs 7)]) (.int .i64 ((3 : Nat) : Int))).run Try.prog w = .ok (.bool (named xs 3)) w := fun _ => by kernel_rfl
              cases hN : named xs 3 with
              | false =>
                have hs' : touchTo xs (3 + 1) = touchTo xs 3 := by rw [hs, show named xs ((3 : Nat) : Int) = false from hN]; simp
                clear hs
                rw [hN] at hix
                go_wp2_with (refine wpList_index rfl 41 (.tmp 32) (.tmp 33) rfl _ _ _ rfl rfl hix ?_)
                go_roundw
                case rel => exact ⟨3 + 1, by omega, by go_num, by rw [hs']; exact o, hB⟩
                case measure => simp [intOf]
              | true =>
                have hs' : touchTo xs (3 + 1) = touchTo xs 3 ++ [3] := by rw [hs, show named xs ((3 : Nat) : Int) = true from hN]; simp
                clear hs
                have oA := World.ownsRow.alloc o (.cells #[.int .i64 3] 3)
                rw [hN] at hix
                go_wp2_with (first | (refine wpList_index rfl 41 (.tmp 32) (.tmp 33) rfl _ _ _ rfl rfl hix ?_) | (at_builtin; refine wpList_append_flat rfl _ _ 29 rfl w.heap.size 3 i0 (.int .i64 0) 1 8 Try.underlying29 hi hz0 hz1 hz2 rfl (by decide) _ _ _ rfl oA _ 1 [.int .i64 3] rfl (Flat.of_owns (owns_lit1 _ 3 (.int .i64 3) 0 (Nat.zero_le _))) (by intro c hc; simp at hc; subst hc; rfl) (by unfold maxLen; omega) (by omega) (by simp; omega) ?_))
                intro v2 w3 o2 g2
                have bb2 := below_of_mark oA g2 (Nat.le_refl _) (by simp; omega)
                have hB2 : Below w.heap.size w w3 := Below.trans (hB.alloc hsz _) bb2
                go_wp2
                go_roundw
                case rel => exact ⟨3 + 1, by omega, by go_num, by rw [hs', encI_snoc, List.length_append]; exact o2, hB2⟩
                case measure => simp [intOf]
            · have hix : ∀ w : World, (Instr.index 41 (.agg #[.bool (named xs 0), .bool (named xs 1), .bool (named xs 2), .bool (named xs 3), .bool (named xs 4), .bool (named xs 5), .bool (named xs 6), .bool (named xs 7)]) (.int .i64 ((4 : Nat) : Int))).run Try.prog w = .ok (.bool (named xs 4)) w := fun _ => by kernel_rfl
              cases hN : named xs 4 with
              | false =>
                have hs' : touchTo xs (4 + 1) = touchTo xs 4 := by rw [hs, show named xs ((4 : Nat) : Int) = false from hN]; simp
                clear hs
                rw [hN] at hix
                go_wp2_with (refine wpList_index rfl 41 (.tmp 32) (.tmp 33) rfl _ _ _ rfl rfl hix ?_)
                go_roundw
                case rel => exact ⟨4 + 1, by omega, by go_num, by rw [hs']; exact o, hB⟩
                case measure => simp [intOf]
              | true =>
                have hs' : touchTo xs (4 + 1) = touchTo xs 4 ++ [4] := by rw [hs, show named xs ((4 : Nat) : Int) = true from hN]; simp
                clear hs
                have oA := World.ownsRow.alloc o (.cells #[.int .i64 4] 3)
                rw [hN] at hix
                go_wp2_with (first | (refine wpList_index rfl 41 (.tmp 32) (.tmp 33) rfl _ _ _ rfl rfl hix ?_) | (at_builtin; refine wpList_append_flat rfl _ _ 29 rfl w.heap.size 3 i0 (.int .i64 0) 1 8 Try.underlying29 hi hz0 hz1 hz2 rfl (by decide) _ _ _ rfl oA _ 1 [.int .i64 4] rfl (Flat.of_owns (owns_lit1 _ 3 (.int .i64 4) 0 (Nat.zero_le _))) (by intro c hc; simp at hc; subst hc; rfl) (by unfold maxLen; omega) (by omega) (by simp; omega) ?_))
                intro v2 w3 o2 g2
                have bb2 := below_of_mark oA g2 (Nat.le_refl _) (by simp; omega)
                have hB2 : Below w.heap.size w w3 := Below.trans (hB.alloc hsz _) bb2
                go_wp2
                go_roundw
                case rel => exact ⟨4 + 1, by omega, by go_num, by rw [hs', encI_snoc, List.length_append]; exact o2, hB2⟩
                case measure => simp [intOf]
            · have hix : ∀ w : World, (Instr.index 41 (.agg #[.bool (named xs 0), .bool (named xs 1), .bool (named xs 2), .bool (named xs 3), .bool (named xs 4), .bool (named xs 5), .bool (named xs 6), .bool (named xs 7)]) (.int .i64 ((5 : Nat) : Int))).run Try.prog w = .ok (.bool (named xs 5)) w := fun _ => by kernel_rfl
              cases hN : named xs 5 with
              | false =>
                have hs' : touchTo xs (5 + 1) = touchTo xs 5 := by rw [hs, show named xs ((5 : Nat) : Int) = false from hN]; simp
                clear hs
                rw [hN] at hix
                go_wp2_with (refine wpList_index rfl 41 (.tmp 32) (.tmp 33) rfl _ _ _ rfl rfl hix ?_)
                go_roundw
                case rel => exact ⟨5 + 1, by omega, by go_num, by rw [hs']; exact o, hB⟩
                case measure => simp [intOf]
              | true =>
                have hs' : touchTo xs (5 + 1) = touchTo xs 5 ++ [5] := by rw [hs, show named xs ((5 : Nat) : Int) = true from hN]; simp
                clear hs
                have oA := World.ownsRow.alloc o (.cells #[.int .i64 5] 3)
                rw [hN] at hix
                go_wp2_with (first | (refine wpList_index rfl 41 (.tmp 32) (.tmp 33) rfl _ _ _ rfl rfl hix ?_) | (at_builtin; refine wpList_append_flat rfl _ _ 29 rfl w.heap.size 3 i0 (.int .i64 0) 1 8 Try.underlying29 hi hz0 hz1 hz2 rfl (by decide) _ _ _ rfl oA _ 1 [.int .i64 5] rfl (Flat.of_owns (owns_lit1 _ 3 (.int .i64 5) 0 (Nat.zero_le _))) (by intro c hc; simp at hc; subst hc; rfl) (by unfold maxLen; omega) (by omega) (by simp; omega) ?_))
                intro v2 w3 o2 g2
                have bb2 := below_of_mark oA g2 (Nat.le_refl _) (by simp; omega)
                have hB2 : Below w.heap.size w w3 := Below.trans (hB.alloc hsz _) bb2
                go_wp2
                go_roundw
                case rel => exact ⟨5 + 1, by omega, by go_num, by rw [hs', encI_snoc, List.length_append]; exact o2, hB2⟩
                case measure => simp [intOf]
            · have hix : ∀ w : World, (Instr.index 41 (.agg #[.bool (named xs 0), .bool (named xs 1), .bool (named xs 2), .bool (named xs 3), .bool (named xs 4), .bool (named xs 5), .bool (named xs 6), .bool (named xs 7)]) (.int .i64 ((6 : Nat) : Int))).run Try.prog w = .ok (.bool (named xs 6)) w := fun _ => by kernel_rfl
              cases hN : named xs 6 with
              | false =>
                have hs' : touchTo xs (6 + 1) = touchTo xs 6 := by rw [hs, show named xs ((6 : Nat) : Int) = false from hN]; simp
                clear hs
                rw [hN] at hix
                go_wp2_with (refine wpList_index rfl 41 (.tmp 32) (.tmp 33) rfl _ _ _ rfl rfl hix ?_)
                go_roundw
                case rel => exact ⟨6 + 1, by omega, by go_num, by rw [hs']; exact o, hB⟩
                case measure => simp [intOf]
              | true =>
                have hs' : touchTo xs (6 + 1) = touchTo xs 6 ++ [6] := by rw [hs, show named xs ((6 : Nat) : Int) = true from hN]; simp
                clear hs
                have oA := World.ownsRow.alloc o (.cells #[.int .i64 6] 3)
                rw [hN] at hix
                go_wp2_with (first | (refine wpList_index rfl 41 (.tmp 32) (.tmp 33) rfl _ _ _ rfl rfl hix ?_) | (at_builtin; refine wpList_append_flat rfl _ _ 29 rfl w.heap.size 3 i0 (.int .i64 0) 1 8 Try.underlying29 hi hz0 hz1 hz2 rfl (by decide) _ _ _ rfl oA _ 1 [.int .i64 6] rfl (Flat.of_owns (owns_lit1 _ 3 (.int .i64 6) 0 (Nat.zero_le _))) (by intro c hc; simp at hc; subst hc; rfl) (by unfold maxLen; omega) (by omega) (by simp; omega) ?_))
                intro v2 w3 o2 g2
                have bb2 := below_of_mark oA g2 (Nat.le_refl _) (by simp; omega)
                have hB2 : Below w.heap.size w w3 := Below.trans (hB.alloc hsz _) bb2
                go_wp2
                go_roundw
                case rel => exact ⟨6 + 1, by omega, by go_num, by rw [hs', encI_snoc, List.length_append]; exact o2, hB2⟩
                case measure => simp [intOf]
            · have hix : ∀ w : World, (Instr.index 41 (.agg #[.bool (named xs 0), .bool (named xs 1), .bool (named xs 2), .bool (named xs 3), .bool (named xs 4), .bool (named xs 5), .bool (named xs 6), .bool (named xs 7)]) (.int .i64 ((7 : Nat) : Int))).run Try.prog w = .ok (.bool (named xs 7)) w := fun _ => by kernel_rfl
              cases hN : named xs 7 with
              | false =>
                have hs' : touchTo xs (7 + 1) = touchTo xs 7 := by rw [hs, show named xs ((7 : Nat) : Int) = false from hN]; simp
                clear hs
                rw [hN] at hix
                go_wp2_with (refine wpList_index rfl 41 (.tmp 32) (.tmp 33) rfl _ _ _ rfl rfl hix ?_)
                go_roundw
                case rel => exact ⟨7 + 1, by omega, by go_num, by rw [hs']; exact o, hB⟩
                case measure => simp [intOf]
              | true =>
                have hs' : touchTo xs (7 + 1) = touchTo xs 7 ++ [7] := by rw [hs, show named xs ((7 : Nat) : Int) = true from hN]; simp
                clear hs
                have oA := World.ownsRow.alloc o (.cells #[.int .i64 7] 3)
                rw [hN] at hix
                go_wp2_with (first | (refine wpList_index rfl 41 (.tmp 32) (.tmp 33) rfl _ _ _ rfl rfl hix ?_) | (at_builtin; refine wpList_append_flat rfl _ _ 29 rfl w.heap.size 3 i0 (.int .i64 0) 1 8 Try.underlying29 hi hz0 hz1 hz2 rfl (by decide) _ _ _ rfl oA _ 1 [.int .i64 7] rfl (Flat.of_owns (owns_lit1 _ 3 (.int .i64 7) 0 (Nat.zero_le _))) (by intro c hc; simp at hc; subst hc; rfl) (by unfold maxLen; omega) (by omega) (by simp; omega) ?_))
                intro v2 w3 o2 g2
                have bb2 := below_of_mark oA g2 (Nat.le_refl _) (by simp; omega)
                have hB2 : Below w.heap.size w w3 := Below.trans (hB.alloc hsz _) bb2
                go_wp2
                go_roundw
                case rel => exact ⟨7 + 1, by omega, by go_num, by rw [hs', encI_snoc, List.length_append]; exact o2, hB2⟩
                case measure => simp [intOf]
          · obtain rfl : k = 8 := by omega
            go_wp2
            go_ret2
            exact ⟨_, rfl, by rw [HT.out]; exact o, hB⟩
end Go.Proofs.Ytjcaagkppalndaa
