/- Chapter 7's program: descriptors and stores copied. -/
import Derived.Test.YtpdgpblekbongaaI7c
import Derived.Test.YtpdgpblekbongaaEnc5
namespace Go.Proofs.Ytpdgpblekbongaa
set_option maxRecDepth 100000
open Go.RowKit Go.Proofs Go.Own
set_option linter.unusedVariables false
set_option linter.unusedSimpArgs false
theorem oneCells_E7 (xs : List Entry) : ∀ c ∈ xs.flatMap Entry.enc, c.oneCell' = true := oneCell_enc oneCell_E xs
set_option maxHeartbeats 4000000 in
theorem impl_copyDesc (d : DescD) (v2 : Value) (w : World) (h2 : rdsL w v2 d.entries_) (hx : d.entries_.length ≤ 1048576) :
    Calls Try.prog 67 #[.agg #[.int .i64 d.owner_, .int .i64 d.status_, v2]] w fun e w' => ∃ u, e = .returned (.agg #[.int .i64 d.owner_, .int .i64 d.status_, u]) ∧ ownL (Rg w.heap.size w'.heap.size) w' u d.entries_ ∧ Below w.heap.size w w' := by
  obtain ⟨i0, hi, hz0, hz1, hz2⟩ := info_parts infoEntry
  have hone := hid (oneCells_E7 d.entries_)
  have H2 := hid (rdsEntrys.1 h2)
  obtain ⟨a2, cap2, rfl, hl2, hm2⟩ := (rdsEntrys.1 h2).form
  clear h2
  have hlen2 : d.entries_.length ≤ 9223372036854775807 := by omega
  obtain ⟨W1, hW1⟩ : ∃ X, (w.alloc (.cells #[.int .i64 d.owner_, .int .i64 d.status_, Value.slice a2 d.entries_.length cap2] 57)).alloc (.cells #[.int .i64 0, .int .i64 0, Value.slice none 0 0] 57) = X := ⟨_, rfl⟩
  have hB1 : Below w.heap.size w W1 := by rw [← hW1]; exact ((Below.refl _ _).alloc (Nat.le_refl _) _).alloc (by simp) _
  have hN : W1.heap.size = w.heap.size + 2 := by rw [← hW1]; simp
  have bd : BoxF W1 w.heap.size [.int .i64 d.owner_, .int .i64 d.status_, Value.slice a2 d.entries_.length cap2] := by
    rw [← hW1]
    exact (BoxF.alloc w #[.int .i64 d.owner_, .int .i64 d.status_, Value.slice a2 d.entries_.length cap2] 57).below ((Below.refl _ _).alloc (Nat.le_refl _) _)
  have br : BoxF W1 (w.heap.size + 1) [.int .i64 0, .int .i64 0, Value.slice none 0 0] := by
    rw [← hW1]
    have h1 := BoxF.alloc (w.alloc (.cells #[.int .i64 d.owner_, .int .i64 d.status_, Value.slice a2 d.entries_.length cap2] 57)) #[.int .i64 0, .int .i64 0, Value.slice none 0 0] 57
    rw [show (w.alloc (.cells #[.int .i64 d.owner_, .int .i64 d.status_, Value.slice a2 d.entries_.length cap2] 57)).heap.size = w.heap.size + 1 by simp] at h1
    exact h1
  have k2 : W1.cell? ⟨w.heap.size, 2, none⟩ = some (Value.slice a2 d.entries_.length cap2) := bd.1.2 2 (by simp)
  have HE := hid (Entrys.below H2.out hB1)
  have BD := hid bd
  have BR := hid br
  have HW1 := hid hW1
  clear hW1 bd br
  go_enter Try.func67, Try.ntmps67
  go_wp2_with (at_builtin; rw [HW1.out]; refine wpList_append_flat rfl _ _ 55 rfl (w.heap.size + 2) 77 i0 (.agg #[.int .i64 0, .int .i64 0, .int .i64 0, .int .i64 0, .bool false]) 5 40 Try.underlying55 hi hz0 hz1 hz2 rfl (by decide) _ _ _ rfl (World.ownsRow_nil W1 (w.heap.size + 2) 77 5) _ _ _ rfl HE.out hone.out (by unfold maxLen; omega) (by omega) (by omega) ?_)
  intro u w3 o3 g3
  replace o3 : w3.ownsRow (w.heap.size + 2) 77 5 u d.entries_.length (d.entries_.flatMap Entry.enc) := by simpa using o3
  obtain ⟨xa, xc, rfl, -, -⟩ := owns_form o3
  have b3 : Below W1.heap.size W1 w3 := below_grown g3 (Nat.le_refl _) (by intro k hk; simp [Value.ownBlock] at hk)
  have hB3 := hB1.trans (b3.mono hB1.size)
  have BD3 := BD.out.below b3
  have BR3 := BR.out.below b3
  have hs3 := b3.size
  have o9 : ownL (Rg (w.heap.size + 2) w3.heap.size) w3 (Value.slice xa d.entries_.length xc) d.entries_ := ownEntrys.2 ⟨owns_base o3 (fun _ _ => Nat.zero_le _), fun k hk => owns_in o3 k hk⟩
  have O9 := hid o9
  have n2 : w3.cell? ⟨w.heap.size, 2, none⟩ = some _ := BD3.1.2 2 (by simp)
  have n3 : w3.frozen? ⟨w.heap.size, 2, none⟩ = false := BD3.2 2 (by simp)
  have m0 : w3.cell? ⟨w.heap.size, 0, none⟩ = some (.int .i64 d.owner_) := BD3.1.2 0 (by simp)
  have m1 : w3.cell? ⟨w.heap.size, 1, none⟩ = some (.int .i64 d.status_) := BD3.1.2 1 (by simp)
  have r0 : w3.cell? ⟨w.heap.size + 1, 0, none⟩ = some (.int .i64 0) := BR3.1.2 0 (by simp)
  have r1 : w3.cell? ⟨w.heap.size + 1, 1, none⟩ = some (.int .i64 0) := BR3.1.2 1 (by simp)
  have r2 : w3.cell? ⟨w.heap.size + 1, 2, none⟩ = some (Value.slice none 0 0) := BR3.1.2 2 (by simp)
  have f0 : w3.frozen? ⟨w.heap.size + 1, 0, none⟩ = false := BR3.2 0 (by simp)
  have f1 : w3.frozen? ⟨w.heap.size + 1, 1, none⟩ = false := BR3.2 1 (by simp)
  have f2 : w3.frozen? ⟨w.heap.size + 1, 2, none⟩ = false := BR3.2 2 (by simp)
  clear o3 g3 b3 BD3 BR3 BD BR HW1 HE k2 o9
  go_wp2
  refine bodyPost_ret (v := .agg #[.int .i64 d.owner_, .int .i64 d.status_, Value.slice xa d.entries_.length xc]) ?_ rfl ⟨_, rfl, ?_, ?_⟩
  · simp [results, Try.results67, go_sem, m0, m1, n2, n3, r0, r1, r2, f0, f1, f2]
  · refine ownL.mono (O9.out.keep fun b hb => ?_) (T := Rg w.heap.size _) fun b hb => ⟨by have := hb.1; omega, by have := hb.2; simpa [World.setCell] using this⟩
    have h1 := hb.1
    rw [heap_setCell_other _ _ b _ (by show b ≠ w.heap.size + 1; omega), heap_setCell_other _ _ b _ (by show b ≠ w.heap.size + 1; omega), heap_setCell_other _ _ b _ (by show b ≠ w.heap.size + 1; omega), heap_setCell_other _ _ b _ (by show b ≠ w.heap.size; omega)]
  · exact (((hB3.setCell (Nat.le_refl _) _).setCell (by show w.heap.size ≤ w.heap.size + 1; omega) _).setCell (by show w.heap.size ≤ w.heap.size + 1; omega) _).setCell (by show w.heap.size ≤ w.heap.size + 1; omega) _
end Go.Proofs.Ytpdgpblekbongaa
