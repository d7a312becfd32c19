/- Chapter 6's program: OpenOk, Opened. -/
import Derived.Test.YtpdgpblekbongaaI6b
namespace Go.Proofs.Ytpdgpblekbongaa
set_option maxRecDepth 100000
open Go.RowKit Go.Proofs Go.Own
open Go Go.BigFrame Go.Shelf
set_option linter.unusedVariables false
set_option linter.unusedSimpArgs false
/-- A slice cut at k from its beginning. -/
theorem Entrys.cut {w : World} {v : Value} {xs : List Entry} {b off cap : Nat} (h : Entrys w v xs) (hv : v = .slice (some ⟨b, off, none⟩) xs.length cap) (k : Nat) (hk : k ≤ xs.length) : Entrys w (.slice (some ⟨b, off, none⟩) k cap) (xs.take k) := by
  obtain ⟨_, a, c, e, h1, h2, _, h3⟩ := h
  rw [hv] at e
  obtain ⟨rfl, rfl⟩ : a = some ⟨b, off, none⟩ ∧ c = cap := by simp at e; exact ⟨e.1.symm, e.2.symm⟩
  have hl : (xs.take k).length = k := by simp; omega
  have hfl := flatMap_len Entry.enc 5 (fun _ => rfl) (xs.take k)
  refine ⟨hfl, _, _, by rw [hl], by omega, h2, (by intro e; cases e), ?_⟩
  by_cases h0 : k = 0
  · exact .inl (by omega)
  · rcases h3 with h3 | ⟨b', off', ha, hs, hc⟩
    · omega
    · simp only [Option.some.injEq, Addr.mk.injEq, and_true] at ha
      obtain ⟨rfl, rfl⟩ := ha
      refine .inr ⟨b, off, rfl, hs, fun j hj => ?_⟩
      have hsplit : xs.flatMap Entry.enc = (xs.take k).flatMap Entry.enc ++ (xs.drop k).flatMap Entry.enc := by rw [← List.flatMap_append, List.take_append_drop]
      have hjx : j < (xs.flatMap Entry.enc).length := by rw [hsplit, List.length_append]; omega
      rw [hc j hjx]
      congr 1
      have : (xs.flatMap Entry.enc)[j]? = ((xs.take k).flatMap Entry.enc)[j]? := by rw [hsplit, List.getElem?_append_left hj]
      rw [List.getElem?_eq_getElem hjx, List.getElem?_eq_getElem hj] at this
      exact Option.some.inj this
set_option maxHeartbeats 4000000 in
theorem impl_OpenOk (v : Value) (xs : List Entry) (w : World) (h : Entrys w v xs) :
    Calls Try.prog 77 #[v] w fun e w' => e = .returned (.bool (openOk xs)) ∧ Below w.heap.size w w' := by
  have H0 := hid h
  obtain ⟨ad, cap, rfl, hl, hm, hc⟩ := h.open
  clear h
  have hlen : xs.length ≤ 9223372036854775807 := by omega
  have HC := hid hc
  clear hc
  by_cases h6 : (6 : Int) < (xs.length : Int)
  · have Hno := hid (show openOk xs = false by unfold openOk; rw [decide_eq_false (by omega)]; rfl)
    go_enter Try.func77, Try.ntmps77
    go_wp2
    go_ret
    exact ⟨ret_bool Hno.out.symm, Below.refl _ _⟩
  have Hy := hid (show openOk xs = openAt xs 0 by unfold openOk; rw [decide_eq_true (by omega), Bool.true_and])
  go_enter Try.func77, Try.ntmps77
  go_wp2
  go_loopw [10] (fun i wr => ∃ k : Nat, k ≤ xs.length ∧ i = .int .i64 k ∧ Same (openAt xs 0) (openAt xs k) ∧ Below w.heap.size w wr) (fun i _ => xs.length - (intOf i).toNat)
  case atStart => exact ⟨0, by omega, rfl, .rfl, Below.refl _ _⟩
  case round =>
    obtain ⟨k, hk, rfl, hS, hB⟩ := hrel
    by_cases hlt : k < xs.length
    · obtain ⟨bb, off, rfl, hbs, c0, c1, c2, c3, c4⟩ := HC.out k hlt
      obtain ⟨e0, e1, e2, e3, e4⟩ := cells5 hB hbs c0 c1 c2 c3 c4
      have hst := hid (openAt_step xs k hlt)
      clear c0 c1 c2 c3 c4
      obtain ⟨V, hV⟩ : ∃ X, wr.alloc (.cells #[.int .i64 xs[k].object_, .int .i64 xs[k].version_, .int .i64 xs[k].old_, .int .i64 xs[k].new_, .bool xs[k].write_] 77) = X := ⟨_, rfl⟩
      have bV : Below wr.heap.size wr V := by rw [← hV]; exact (Below.refl _ _).alloc (Nat.le_refl _) _
      have hN : wr.heap.size < V.heap.size := by rw [← hV]; simp
      have k0 : V.cell? ⟨wr.heap.size, 0, none⟩ = some (.int .i64 xs[k].object_) := by rw [← hV]; simp [go_sem]
      have k1 : V.cell? ⟨wr.heap.size, 1, none⟩ = some (.int .i64 xs[k].version_) := by rw [← hV]; simp [go_sem]
      have k2 : V.cell? ⟨wr.heap.size, 2, none⟩ = some (.int .i64 xs[k].old_) := by rw [← hV]; simp [go_sem]
      have k3 : V.cell? ⟨wr.heap.size, 3, none⟩ = some (.int .i64 xs[k].new_) := by rw [← hV]; simp [go_sem]
      have k4 : V.cell? ⟨wr.heap.size, 4, none⟩ = some (.bool xs[k].write_) := by rw [← hV]; simp [go_sem]
      have HBV := hid (show Below w.heap.size w V from hB.trans (bV.mono hB.size))
      have hcut := Entrys.cut (Entrys.below H0.out HBV.out) rfl k hk
      have x0 := Ext.cell hN k0
      have x1 := Ext.cell hN k1
      have x2 := Ext.cell hN k2
      have x3 := Ext.cell hN k3
      have x4 := Ext.cell hN k4
      obtain ⟨P, hP⟩ : ∃ P, Hid (placeC (xs.take k) xs[k].object_ = P) := ⟨_, hid rfl⟩
      have HV := hid hV
      clear hV k0 k1 k2 k3 k4 HC H0 bV
      cases hEq : entryOk xs[k] with
      | false =>
        have hE := hid hEq
        have Hn := hid (show openOk xs = false by rw [Hy.out, hS.out, hst.out, hEq]; rfl)
        clear hEq
        go_wp2_with fail
        rw [HV.out]
        clear e0 e1 e2 e3 e4
        refine wp_region_ext V (Below.refl _ _) (by kernel_rfl) (by kernel_rfl) ?_
        repeat (go_big_quiet_step (first | (go_at_call 89; exact call_ext _ (impl_entryOkIs xs[k] _ _ hE.out)) | (go_at_call 80; exact call_ext _ (impl_placeOfIs _ (xs.take k) _ _ _ (Ext.flat hcut _) hP.out))))
        refine wpQuiet_nil ?_; rintro _ ⟨E, rfl⟩
        go_wp2
        go_ret
        exact ⟨ret_bool Hn.out.symm, HBV.out.trans (E.h.mono HBV.out.size)⟩
      | true =>
        have hE := hid hEq
        have Hst2 := hid (show openAt xs 0 = (decide (P < 0) && openAt xs (k+1)) by rw [hS.out, hst.out, hEq, hP.out, Bool.true_and])
        clear hEq
        by_cases hp : 0 ≤ P
        · have Hn := hid (show openOk xs = false by rw [Hy.out, Hst2.out, decide_eq_false (by omega)]; rfl)
          go_wp2_with fail
          rw [HV.out]
          clear e0 e1 e2 e3 e4
          refine wp_region_ext V (Below.refl _ _) (by kernel_rfl) (by kernel_rfl) ?_
          repeat (go_big_quiet_step (first | (go_at_call 89; exact call_ext _ (impl_entryOkIs xs[k] _ _ hE.out)) | (go_at_call 80; exact call_ext _ (impl_placeOfIs _ (xs.take k) _ _ _ (Ext.flat hcut _) hP.out))))
          refine wpQuiet_nil ?_; rintro _ ⟨E, rfl⟩
          go_wp2
          go_ret
          exact ⟨ret_bool Hn.out.symm, HBV.out.trans (E.h.mono HBV.out.size)⟩
        · go_wp2_with fail
          rw [HV.out]
          clear e0 e1 e2 e3 e4
          refine wp_region_ext V (Below.refl _ _) (by kernel_rfl) (by kernel_rfl) ?_
          repeat (go_big_quiet_step (first | (go_at_call 89; exact call_ext _ (impl_entryOkIs xs[k] _ _ hE.out)) | (go_at_call 80; exact call_ext _ (impl_placeOfIs _ (xs.take k) _ _ _ (Ext.flat hcut _) hP.out))))
          refine wpQuiet_nil ?_; rintro _ ⟨E, rfl⟩
          go_wp2
          go_roundw
          case rel => exact ⟨k+1, by omega, by go_num, Same.mk (by rw [Hst2.out, decide_eq_true (by omega), Bool.true_and]), HBV.out.trans (E.h.mono HBV.out.size)⟩
          case measure => simp [intOf]; omega
    · have Hn := hid (show openOk xs = true by rw [Hy.out, hS.out, openAt_end xs k hlt])
      go_wp2
      go_ret
      exact ⟨ret_bool Hn.out.symm, hB⟩
end Go.Proofs.Ytpdgpblekbongaa
