/- Chapter 10's model: NewThread, its answer the call's own. (printed by tools/mk_wr11.py) -/
import Derived.Test.YtcafdihekamnkaaS10n
namespace Go.Proofs.Ytcafdihekamnkaa
set_option maxRecDepth 100000
open Go.RowKit Go.Proofs Go.Own
set_option linter.unusedVariables false
set_option linter.unusedSimpArgs false
set_option maxHeartbeats 4000000 in
theorem spec_NewThread1 (id : Int) (v : Value) (xs : List Instr) (w : World) (h : Instrs w v xs) (hx : xs.length ≤ 1048576) :
    Calls Try.prog 20 #[.int .i64 id, v] w fun e w' => ∃ u0 u1 u2 : Value, e = .returned (.tuple #[.agg #[.int .i64 (newThread id xs).id_, u0, .int .i64 (newThread id xs).at_, .int .i64 (newThread id xs).reg0_, .int .i64 (newThread id xs).reg1_, .int .i64 (newThread id xs).reg2_, .int .i64 (newThread id xs).reg3_, u1, .int .i64 (newThread id xs).check_, u2, .int .i64 (newThread id xs).mine_, .int .i64 (newThread id xs).state_, .int .i64 (newThread id xs).commits_, .int .i64 (newThread id xs).fails_], .bool (newTOk id xs)]) ∧ (∃ S0 S1 S2 : Nat → Prop, ownL S0 w' u0 (newThread id xs).prog_ ∧ ownL S1 w' u1 (newThread id xs).open_ ∧ ownL S2 w' u2 (newThread id xs).stack_ ∧ (∀ k, S0 k → Rg w.heap.size w'.heap.size k) ∧ (∀ k, S1 k → Rg w.heap.size w'.heap.size k) ∧ (∀ k, S2 k → Rg w.heap.size w'.heap.size k) ∧ (∀ k, S0 k → ¬ S1 k) ∧ (∀ k, S0 k → ¬ S2 k) ∧ (∀ k, S1 k → ¬ S2 k)) ∧ Below w.heap.size w w' := by
  obtain ⟨i0, hi, hz0, hz1, hz2⟩ := info_parts infoInstr
  have hone := hid (oneCell_enc (f := Instr.enc) (by intro x c hc; simp [Instr.enc] at hc; rcases hc with rfl | rfl | rfl <;> rfl) xs)
  obtain ⟨ad, cap, rfl, hl, hm⟩ := Flat.form h
  obtain ⟨W1, hW1⟩ : ∃ X, w.alloc (.cells #[.int .i64 0, Value.slice none 0 0, .int .i64 0, .int .i64 0, .int .i64 0, .int .i64 0, .int .i64 0, Value.slice none 0 0, .int .i64 0, Value.slice none 0 0, .int .i64 0, .int .i64 0, .int .i64 0, .int .i64 0] 55) = X := ⟨_, rfl⟩
  have hB1 : Below w.heap.size w W1 := by rw [← hW1]; exact (Below.refl _ _).alloc (Nat.le_refl _) _
  have bt : BoxF W1 w.heap.size [.int .i64 0, Value.slice none 0 0, .int .i64 0, .int .i64 0, .int .i64 0, .int .i64 0, .int .i64 0, Value.slice none 0 0, .int .i64 0, Value.slice none 0 0, .int .i64 0, .int .i64 0, .int .i64 0, .int .i64 0] := by rw [← hW1]; exact BoxF.alloc _ _ _
  have HW1 := hid hW1
  clear hW1
  cases hI : inB id 0 3 with
  | false =>
    have Hn := hid (show newTOk id xs = false by unfold newTOk; rw [hI]; rfl)
    have HT := hid (show newThread id xs = ⟨0, [], 0, 0, 0, 0, 0, [], 0, [], 0, 0, 0, 0⟩ by unfold newThread; rw [Hn.out]; rfl)
    have HB9 := hid hB1
    go_enter Try.func20, Try.ntmps20
    go_upto_region 1 with fail
    rw [HW1.out]
    go_wp2_with (first | (go_at_call 18; refine (spec_l1In _ _ _ _).mono ?_; rintro e w' ⟨rfl, rfl⟩) | (refine wpList_store_box rfl 55 (.tmp 4) (.tmp 14) rfl w.heap.size _ [.int .i64 0, Value.slice none 0 0, .int .i64 0, .int .i64 0, .int .i64 0, .int .i64 0, .int .i64 0, Value.slice none 0 0, .int .i64 0, Value.slice none 0 0, .int .i64 0, .int .i64 0, .int .i64 0, .int .i64 0] bt rfl rfl rfl (by kernel_rfl) rfl ?_; intro w2 bt2 C2))
    have y0 : w2.cell? ⟨w.heap.size, 0, none⟩ = some (.int .i64 0) := bt2.1.2 0 (by simp)
    have y1 : w2.cell? ⟨w.heap.size, 1, none⟩ = some (Value.slice none 0 0) := bt2.1.2 1 (by simp)
    have y2 : w2.cell? ⟨w.heap.size, 2, none⟩ = some (.int .i64 0) := bt2.1.2 2 (by simp)
    have y3 : w2.cell? ⟨w.heap.size, 3, none⟩ = some (.int .i64 0) := bt2.1.2 3 (by simp)
    have y4 : w2.cell? ⟨w.heap.size, 4, none⟩ = some (.int .i64 0) := bt2.1.2 4 (by simp)
    have y5 : w2.cell? ⟨w.heap.size, 5, none⟩ = some (.int .i64 0) := bt2.1.2 5 (by simp)
    have y6 : w2.cell? ⟨w.heap.size, 6, none⟩ = some (.int .i64 0) := bt2.1.2 6 (by simp)
    have y7 : w2.cell? ⟨w.heap.size, 7, none⟩ = some (Value.slice none 0 0) := bt2.1.2 7 (by simp)
    have y8 : w2.cell? ⟨w.heap.size, 8, none⟩ = some (.int .i64 0) := bt2.1.2 8 (by simp)
    have y9 : w2.cell? ⟨w.heap.size, 9, none⟩ = some (Value.slice none 0 0) := bt2.1.2 9 (by simp)
    have y10 : w2.cell? ⟨w.heap.size, 10, none⟩ = some (.int .i64 0) := bt2.1.2 10 (by simp)
    have y11 : w2.cell? ⟨w.heap.size, 11, none⟩ = some (.int .i64 0) := bt2.1.2 11 (by simp)
    have y12 : w2.cell? ⟨w.heap.size, 12, none⟩ = some (.int .i64 0) := bt2.1.2 12 (by simp)
    have y13 : w2.cell? ⟨w.heap.size, 13, none⟩ = some (.int .i64 0) := bt2.1.2 13 (by simp)
    have HB := hid (below_chg HB9.out C2 HB9.out.size (fun k hk => by rw [hk]; exact Nat.le_refl _))
    simp only [HT.out, Hn.out]
    exact bodyPost_ret (v := .tuple #[.agg #[.int .i64 0, Value.slice none 0 0, .int .i64 0, .int .i64 0, .int .i64 0, .int .i64 0, .int .i64 0, Value.slice none 0 0, .int .i64 0, Value.slice none 0 0, .int .i64 0, .int .i64 0, .int .i64 0, .int .i64 0], .bool false]) (by simp [results, Try.results20, go_sem, y0, y1, y2, y3, y4, y5, y6, y7, y8, y9, y10, y11, y12, y13]) rfl ⟨_, _, _, rfl, ⟨fun _ => False, fun _ => False, fun _ => False, ownL_nil _ _, ownL_nil _ _, ownL_nil _ _, fun _ h => h.elim, fun _ h => h.elim, fun _ h => h.elim, fun _ h => h.elim, fun _ h => h.elim, fun _ h => h.elim⟩, HB.out⟩
  | true =>
    have h1 := hid (Flat.below h hB1)
    go_enter Try.func20, Try.ntmps20
    go_upto_region 1 with fail
    rw [HW1.out]
    go_wp2_with (go_at_call 18; refine (spec_l1In _ _ _ _).mono ?_; rintro e w' ⟨rfl, rfl⟩)
    refine (spec_ProgOk _ xs _ h1.out).mono ?_
    rintro e w8 ⟨rfl, b8⟩
    have HB9 := hid (hB1.trans (b8.mono hB1.size))
    have bt8 := bt.below b8
    have bt := bt8
    cases hP : progOk xs with
    | false =>
    have Hn := hid (show newTOk id xs = false by unfold newTOk; rw [hP, Bool.and_false])
    have HT := hid (show newThread id xs = ⟨0, [], 0, 0, 0, 0, 0, [], 0, [], 0, 0, 0, 0⟩ by unfold newThread; rw [Hn.out]; rfl)
    go_wp2_with (first | (go_at_call 18; refine (spec_l1In _ _ _ _).mono ?_; rintro e w' ⟨rfl, rfl⟩) | (refine wpList_store_box rfl 55 (.tmp 4) (.tmp 14) rfl w.heap.size _ [.int .i64 0, Value.slice none 0 0, .int .i64 0, .int .i64 0, .int .i64 0, .int .i64 0, .int .i64 0, Value.slice none 0 0, .int .i64 0, Value.slice none 0 0, .int .i64 0, .int .i64 0, .int .i64 0, .int .i64 0] bt rfl rfl rfl (by kernel_rfl) rfl ?_; intro w2 bt2 C2))
    have y0 : w2.cell? ⟨w.heap.size, 0, none⟩ = some (.int .i64 0) := bt2.1.2 0 (by simp)
    have y1 : w2.cell? ⟨w.heap.size, 1, none⟩ = some (Value.slice none 0 0) := bt2.1.2 1 (by simp)
    have y2 : w2.cell? ⟨w.heap.size, 2, none⟩ = some (.int .i64 0) := bt2.1.2 2 (by simp)
    have y3 : w2.cell? ⟨w.heap.size, 3, none⟩ = some (.int .i64 0) := bt2.1.2 3 (by simp)
    have y4 : w2.cell? ⟨w.heap.size, 4, none⟩ = some (.int .i64 0) := bt2.1.2 4 (by simp)
    have y5 : w2.cell? ⟨w.heap.size, 5, none⟩ = some (.int .i64 0) := bt2.1.2 5 (by simp)
    have y6 : w2.cell? ⟨w.heap.size, 6, none⟩ = some (.int .i64 0) := bt2.1.2 6 (by simp)
    have y7 : w2.cell? ⟨w.heap.size, 7, none⟩ = some (Value.slice none 0 0) := bt2.1.2 7 (by simp)
    have y8 : w2.cell? ⟨w.heap.size, 8, none⟩ = some (.int .i64 0) := bt2.1.2 8 (by simp)
    have y9 : w2.cell? ⟨w.heap.size, 9, none⟩ = some (Value.slice none 0 0) := bt2.1.2 9 (by simp)
    have y10 : w2.cell? ⟨w.heap.size, 10, none⟩ = some (.int .i64 0) := bt2.1.2 10 (by simp)
    have y11 : w2.cell? ⟨w.heap.size, 11, none⟩ = some (.int .i64 0) := bt2.1.2 11 (by simp)
    have y12 : w2.cell? ⟨w.heap.size, 12, none⟩ = some (.int .i64 0) := bt2.1.2 12 (by simp)
    have y13 : w2.cell? ⟨w.heap.size, 13, none⟩ = some (.int .i64 0) := bt2.1.2 13 (by simp)
    have HB := hid (below_chg HB9.out C2 HB9.out.size (fun k hk => by rw [hk]; exact Nat.le_refl _))
    simp only [HT.out, Hn.out]
    exact bodyPost_ret (v := .tuple #[.agg #[.int .i64 0, Value.slice none 0 0, .int .i64 0, .int .i64 0, .int .i64 0, .int .i64 0, .int .i64 0, Value.slice none 0 0, .int .i64 0, Value.slice none 0 0, .int .i64 0, .int .i64 0, .int .i64 0, .int .i64 0], .bool false]) (by simp [results, Try.results20, go_sem, y0, y1, y2, y3, y4, y5, y6, y7, y8, y9, y10, y11, y12, y13]) rfl ⟨_, _, _, rfl, ⟨fun _ => False, fun _ => False, fun _ => False, ownL_nil _ _, ownL_nil _ _, ownL_nil _ _, fun _ h => h.elim, fun _ h => h.elim, fun _ h => h.elim, fun _ h => h.elim, fun _ h => h.elim, fun _ h => h.elim⟩, HB.out⟩
    | true =>
    have Hn := hid (show newTOk id xs = true by unfold newTOk; rw [hI, hP]; rfl)
    have HT := hid (show newThread id xs = ⟨id, xs, 0, 0, 0, 0, 0, [], -1, [], -1, 0, 0, 0⟩ by unfold newThread; rw [Hn.out]; rfl)
    have hown : (w8.alloc (.cells #[] 72)).ownsRow w8.heap.size 72 3 (.slice (some ⟨w8.heap.size, 0, none⟩) 0 0) 0 [] := World.ownsRow_made _ _ _ (Nat.le_refl _) (Nat.zero_le _) rfl
    have hBA : Below w8.heap.size w8 (w8.alloc (.cells #[] 72)) := (Below.refl _ _).alloc (Nat.le_refl _) _
    have h2 := Flat.below h1.out (b8.trans (hBA.mono b8.size))
    have btA := bt.below hBA
    go_wp2_with (at_builtin; refine wpList_append_flat rfl _ _ 50 rfl w8.heap.size 72 i0 (.agg #[.int .i64 0, .int .i64 0, .int .i64 0]) 3 24 Try.underlying50 hi hz0 hz1 hz2 rfl (by decide) _ _ _ rfl hown _ _ _ rfl h2 hone.out (by unfold maxLen; omega) (by omega) (by simp) ?_)
    intro v9 w9 o9 g9
    have b9 := below_of_mark hown g9 (Nat.le_refl _) (by simp)
    have B9 := hBA.trans b9
    have bt9 := bt.below B9
    have HB9' := hid (HB9.out.trans (B9.mono HB9.out.size))
    obtain ⟨a9, n9, c9, rfl⟩ := owns_form3 o9
    have o9' : w9.ownsRow w8.heap.size 72 3 (Value.slice a9 n9 c9) xs.length (xs.flatMap Instr.enc) := by simpa using o9
    have R9 := hid (show ownL (Rg w8.heap.size w9.heap.size) w9 (Value.slice a9 n9 c9) xs from ownInstrs.2 ⟨owns_base o9' (fun _ _ => Nat.zero_le _), fun k hk => owns_in o9' k hk⟩)
    have hlt8 : w.heap.size < w8.heap.size := bt8.1.1
    clear bt8 btA hBA h2 b9 g9 o9 o9'
    go_wp2_with (first | (refine wpList_store_box rfl 55 (.tmp 4) (.tmp 19) rfl w.heap.size _ [.int .i64 id, Value.slice a9 n9 c9, .int .i64 0, .int .i64 0, .int .i64 0, .int .i64 0, .int .i64 0, Value.slice none 0 0, .int .i64 (-1), Value.slice none 0 0, .int .i64 (-1), .int .i64 0, .int .i64 0, .int .i64 0] bt9 rfl rfl rfl (by kernel_rfl) rfl ?_; intro w2 bt2 C2))
    have y0 : w2.cell? ⟨w.heap.size, 0, none⟩ = some (.int .i64 id) := bt2.1.2 0 (by simp)
    have y1 : w2.cell? ⟨w.heap.size, 1, none⟩ = some (Value.slice a9 n9 c9) := bt2.1.2 1 (by simp)
    have y2 : w2.cell? ⟨w.heap.size, 2, none⟩ = some (.int .i64 0) := bt2.1.2 2 (by simp)
    have y3 : w2.cell? ⟨w.heap.size, 3, none⟩ = some (.int .i64 0) := bt2.1.2 3 (by simp)
    have y4 : w2.cell? ⟨w.heap.size, 4, none⟩ = some (.int .i64 0) := bt2.1.2 4 (by simp)
    have y5 : w2.cell? ⟨w.heap.size, 5, none⟩ = some (.int .i64 0) := bt2.1.2 5 (by simp)
    have y6 : w2.cell? ⟨w.heap.size, 6, none⟩ = some (.int .i64 0) := bt2.1.2 6 (by simp)
    have y7 : w2.cell? ⟨w.heap.size, 7, none⟩ = some (Value.slice none 0 0) := bt2.1.2 7 (by simp)
    have y8 : w2.cell? ⟨w.heap.size, 8, none⟩ = some (.int .i64 (-1)) := bt2.1.2 8 (by simp)
    have y9 : w2.cell? ⟨w.heap.size, 9, none⟩ = some (Value.slice none 0 0) := bt2.1.2 9 (by simp)
    have y10 : w2.cell? ⟨w.heap.size, 10, none⟩ = some (.int .i64 (-1)) := bt2.1.2 10 (by simp)
    have y11 : w2.cell? ⟨w.heap.size, 11, none⟩ = some (.int .i64 0) := bt2.1.2 11 (by simp)
    have y12 : w2.cell? ⟨w.heap.size, 12, none⟩ = some (.int .i64 0) := bt2.1.2 12 (by simp)
    have y13 : w2.cell? ⟨w.heap.size, 13, none⟩ = some (.int .i64 0) := bt2.1.2 13 (by simp)
    have HB := hid (below_chg HB9'.out C2 HB9'.out.size (fun k hk => by rw [hk]; exact Nat.le_refl _))
    simp only [HT.out, Hn.out]
    exact bodyPost_ret (v := .tuple #[.agg #[.int .i64 id, Value.slice a9 n9 c9, .int .i64 0, .int .i64 0, .int .i64 0, .int .i64 0, .int .i64 0, Value.slice none 0 0, .int .i64 (-1), Value.slice none 0 0, .int .i64 (-1), .int .i64 0, .int .i64 0, .int .i64 0], .bool true]) (by simp [results, Try.results20, go_sem, y0, y1, y2, y3, y4, y5, y6, y7, y8, y9, y10, y11, y12, y13]) rfl ⟨_, _, _, rfl, ⟨_, fun _ => False, fun _ => False, R9.out.chg C2 (fun b hb => ⟨hb.2, fun h => by have := hb.1; omega⟩), ownL_nil _ _, ownL_nil _ _, fun k hk => ⟨by have := hk.1; omega, Nat.lt_of_lt_of_le hk.2 C2.size⟩, fun _ h => h.elim, fun _ h => h.elim, fun _ _ h => h, fun _ _ h => h, fun _ h => h.elim⟩, HB.out⟩
end Go.Proofs.Ytcafdihekamnkaa
