/- Chapter 6's program: OpenOk, Opened. -/
import Derived.Test.YtbbdchlabdilcaaI6
import Derived.Shelf.Abstract
/- Chapter 6's program: the place of an object; OpenOk, Opened. -/
namespace Go.Proofs.Ytbbdchlabdilcaa
set_option maxRecDepth 100000
open Go.RowKit Go.Proofs Go.Own
open Go Go.BigFrame Go.Shelf
set_option linter.unusedVariables false
set_option linter.unusedSimpArgs false
theorem impl_placeOf1 (e : Entry) (o : Int) (B : Nat) (w : World) (hB : B < w.heap.size) (hc : w.cell? ⟨B, 0, none⟩ = some (.int .i64 o)) :
    Calls Try.prog 65 #[.agg #[.int .i64 e.object_, .int .i64 e.version_, .int .i64 e.old_, .int .i64 e.new_, .bool e.write_], .pointer (some ⟨B, 0, none⟩)] w fun r w' => r = .returned (.bool (e.object_ == o)) ∧ Below w.heap.size w w' := by
  have hne : B ≠ w.heap.size := by omega
  go_enter Try.func65, Try.ntmps65
  go_wp2
  go_ret
  exact ⟨rfl, (Below.refl _ _).alloc (Nat.le_refl _) _⟩
theorem impl_placeOf1Is (e : Entry) (o : Int) (r : Bool) (B : Nat) (w : World) (hB : B < w.heap.size) (hc : w.cell? ⟨B, 0, none⟩ = some (.int .i64 o)) (hr : (e.object_ == o) = r) :
    Calls Try.prog 65 #[.agg #[.int .i64 e.object_, .int .i64 e.version_, .int .i64 e.old_, .int .i64 e.new_, .bool e.write_], .pointer (some ⟨B, 0, none⟩)] w fun e w' => e = .returned (.bool r) ∧ Below w.heap.size w w' := by
  subst hr; exact impl_placeOf1 e o B w hB hc
set_option maxHeartbeats 4000000 in
theorem impl_IndexFunc (v : Value) (xs : List Entry) (o : Int) (B : Nat) (w : World) (h : Entrys w v xs) (hB : B < w.heap.size) (hc : w.cell? ⟨B, 0, none⟩ = some (.int .i64 o)) :
    Calls Try.prog 64 #[v, .func (.func 65) #[] #[.pointer (some ⟨B, 0, none⟩)]] w fun e w' => e = .returned (.int .i64 (placeC xs o)) ∧ Below w.heap.size w w' := by
  have eg : ∀ args w, (callFunc 65 args).run Try.prog w = .ok (.enter 65 args) w := enters_of Try.func65 (by kernel_rfl) rfl
  obtain ⟨ad, cap, rfl, hl, hm, hc0⟩ := h.open
  clear h
  have hlen : xs.length ≤ 9223372036854775807 := by omega
  have HC := hid hc0
  have HcB := hid hc
  clear hc0 hc
  go_enter Try.func64, Try.ntmps64
  go_wp2
  go_loopw [8] (fun i wr => ∃ k : Nat, k ≤ xs.length ∧ i = .int .i64 k ∧ Same (placeFrom xs o k) (placeC xs o) ∧ Below w.heap.size w wr) (fun i _ => xs.length - (intOf i).toNat)
  case atStart => exact ⟨0, by omega, rfl, .rfl, Below.refl _ _⟩
  case round =>
    obtain ⟨k, hk, rfl, hS, hW⟩ := hrel
    by_cases hlt : k < xs.length
    · obtain ⟨bb, off, rfl, hbs, c0, c1, c2, c3, c4⟩ := HC.out k hlt
      obtain ⟨e0, e1, e2, e3, e4⟩ := cells5 hW hbs c0 c1 c2 c3 c4
      have hcB := hid ((hW.cell (p := ⟨B, 0, none⟩) hB).trans HcB.out)
      have hBr := Nat.lt_of_lt_of_le hB hW.size
      have hst := hid (placeFrom_step xs o k hlt)
      clear c0 c1 c2 c3 c4 HC HcB
      cases hq : (xs[k].object_ == o) with
      | true =>
        have heq := hid (show xs[k].object_ = o by simpa using hq)
        have Hq := hid hq
        clear hq
        go_wp2_with (go_at_fn 65; refine (impl_placeOf1Is xs[k] o _ B _ hBr hcB.out Hq.out).mono ?_; rintro e w2 ⟨rfl, b2⟩)
        have hW2 := hW.trans (b2.mono hW.size)
        go_ret
        exact ⟨ret_int (by rw [← hS.out, hst.out, if_pos heq.out]), hW2⟩
      | false =>
        have heq := hid (show ¬ xs[k].object_ = o by simpa using hq)
        have Hq := hid hq
        clear hq
        go_wp2_with (go_at_fn 65; refine (impl_placeOf1Is xs[k] o _ B _ hBr hcB.out Hq.out).mono ?_; rintro e w2 ⟨rfl, b2⟩)
        have hW2 := hW.trans (b2.mono hW.size)
        go_roundw
        case rel => exact ⟨k+1, by omega, by go_num, Same.mk (by have h9 := hst.out; rw [if_neg heq.out] at h9; rw [← h9]; exact hS.out), hW2⟩
        case measure => simp [intOf]; omega
    · have He := hid (placeFrom_end xs o k hlt)
      go_wp2
      go_ret
      exact ⟨ret_int (by rw [← hS.out, He.out]), hW⟩
theorem impl_placeOf (v : Value) (xs : List Entry) (o : Int) (w : World) (h : Entrys w v xs) :
    Calls Try.prog 60 #[v, .int .i64 o] w fun e w' => e = .returned (.int .i64 (placeC xs o)) ∧ Below w.heap.size w w' := by
  have hmf : ∀ (fn : Fn) (first cap : Array Value) (w : World), (Instr.makeFunc fn first cap).run Try.prog w = .ok (.func fn first cap) w := fun _ _ _ _ => rfl
  obtain ⟨W1, hW1⟩ : ∃ X, w.alloc (.cells #[.int .i64 o] 3) = X := ⟨_, rfl⟩
  have hB1 : Below w.heap.size w W1 := by rw [← hW1]; exact (Below.refl _ _).alloc (Nat.le_refl _) _
  have hN : w.heap.size < W1.heap.size := by rw [← hW1]; simp
  have k0 : W1.cell? ⟨w.heap.size, 0, none⟩ = some (.int .i64 o) := by rw [← hW1]; simp [go_sem]
  have h1 := hid (Entrys.below h hB1)
  go_enter Try.func60, Try.ntmps60
  go_wp2_with fail
  refine (impl_IndexFunc v xs o w.heap.size _ h1.out hN k0).mono ?_
  rintro e w2 ⟨rfl, b2⟩
  have hB2 := hB1.trans (b2.mono hB1.size)
  go_wp2
  go_ret
  exact ⟨rfl, hB2⟩
theorem impl_placeOfIs (v : Value) (xs : List Entry) (o : Int) (r : Int) (w : World) (h : Entrys w v xs) (hr : placeC xs o = r) :
    Calls Try.prog 60 #[v, .int .i64 o] w fun e w' => e = .returned (.int .i64 r) ∧ Below w.heap.size w w' := by
  subst hr; exact impl_placeOf v xs o w h
theorem impl_entryOkIs (e : Entry) (r : Bool) (w : World) (hr : entryOk e = r) :
    Calls Try.prog 62 #[.agg #[.int .i64 e.object_, .int .i64 e.version_, .int .i64 e.old_, .int .i64 e.new_, .bool e.write_]] w fun e w' => e = .returned (.bool r) ∧ Below w.heap.size w w' := by
  subst hr; exact impl_entryOk e w
end Go.Proofs.Ytbbdchlabdilcaa
namespace Go.Proofs.Ytbbdchlabdilcaa
set_option maxRecDepth 100000
open Go.RowKit Go.Proofs Go.Own
open Go Go.BigFrame Go.Shelf
set_option linter.unusedVariables false
set_option linter.unusedSimpArgs false
/-- A slice cut at k from its beginning. -/
theorem Entrys.cut {w : World} {v : Value} {xs : List Entry} {b off cap : Nat} (h : Entrys w v xs) (hv : v = .slice (some ⟨b, off, none⟩) xs.length cap) (k : Nat) (hk : k ≤ xs.length) : Entrys w (.slice (some ⟨b, off, none⟩) k cap) (xs.take k) := by
  obtain ⟨_, a, c, e, h1, h2, _, h3⟩ := h
  rw [hv] at e
  obtain ⟨rfl, rfl⟩ : a = some ⟨b, off, none⟩ ∧ c = cap := by simp at e; exact ⟨e.1.symm, e.2.symm⟩
  have hl : (xs.take k).length = k := by simp; omega
  have hfl := flatMap_len Entry.enc 5 (fun _ => rfl) (xs.take k)
  refine ⟨hfl, _, _, by rw [hl], by omega, h2, (by intro e; cases e), ?_⟩
  by_cases h0 : k = 0
  · exact .inl (by omega)
  · rcases h3 with h3 | ⟨b', off', ha, hs, hc⟩
    · omega
    · simp only [Option.some.injEq, Addr.mk.injEq, and_true] at ha
      obtain ⟨rfl, rfl⟩ := ha
      refine .inr ⟨b, off, rfl, hs, fun j hj => ?_⟩
      have hsplit : xs.flatMap Entry.enc = (xs.take k).flatMap Entry.enc ++ (xs.drop k).flatMap Entry.enc := by rw [← List.flatMap_append, List.take_append_drop]
      have hjx : j < (xs.flatMap Entry.enc).length := by rw [hsplit, List.length_append]; omega
      rw [hc j hjx]
      congr 1
      have : (xs.flatMap Entry.enc)[j]? = ((xs.take k).flatMap Entry.enc)[j]? := by rw [hsplit, List.getElem?_append_left hj]
      rw [List.getElem?_eq_getElem hjx, List.getElem?_eq_getElem hj] at this
      exact Option.some.inj this
set_option maxHeartbeats 4000000 in
theorem impl_OpenOk (v : Value) (xs : List Entry) (w : World) (h : Entrys w v xs) :
    Calls Try.prog 55 #[v] w fun e w' => e = .returned (.bool (openOk xs)) ∧ Below w.heap.size w w' := by
  have H0 := hid h
  obtain ⟨ad, cap, rfl, hl, hm, hc⟩ := h.open
  clear h
  have hlen : xs.length ≤ 9223372036854775807 := by omega
  have HC := hid hc
  clear hc
  by_cases h6 : (6 : Int) < (xs.length : Int)
  · have Hno := hid (show openOk xs = false by unfold openOk; rw [decide_eq_false (by omega)]; rfl)
    go_enter Try.func55, Try.ntmps55
    go_wp2
    go_ret
    exact ⟨ret_bool Hno.out.symm, Below.refl _ _⟩
  have Hy := hid (show openOk xs = openAt xs 0 by unfold openOk; rw [decide_eq_true (by omega), Bool.true_and])
  go_enter Try.func55, Try.ntmps55
  go_wp2
  go_loopw [10] (fun i wr => ∃ k : Nat, k ≤ xs.length ∧ i = .int .i64 k ∧ Same (openAt xs 0) (openAt xs k) ∧ Below w.heap.size w wr) (fun i _ => xs.length - (intOf i).toNat)
  case atStart => exact ⟨0, by omega, rfl, .rfl, Below.refl _ _⟩
  case round =>
    obtain ⟨k, hk, rfl, hS, hB⟩ := hrel
    by_cases hlt : k < xs.length
    · obtain ⟨bb, off, rfl, hbs, c0, c1, c2, c3, c4⟩ := HC.out k hlt
      obtain ⟨e0, e1, e2, e3, e4⟩ := cells5 hB hbs c0 c1 c2 c3 c4
      have hst := hid (openAt_step xs k hlt)
      clear c0 c1 c2 c3 c4
      obtain ⟨V, hV⟩ : ∃ X, wr.alloc (.cells #[.int .i64 xs[k].object_, .int .i64 xs[k].version_, .int .i64 xs[k].old_, .int .i64 xs[k].new_, .bool xs[k].write_] 63) = X := ⟨_, rfl⟩
      have bV : Below wr.heap.size wr V := by rw [← hV]; exact (Below.refl _ _).alloc (Nat.le_refl _) _
      have hN : wr.heap.size < V.heap.size := by rw [← hV]; simp
      have k0 : V.cell? ⟨wr.heap.size, 0, none⟩ = some (.int .i64 xs[k].object_) := by rw [← hV]; simp [go_sem]
      have k1 : V.cell? ⟨wr.heap.size, 1, none⟩ = some (.int .i64 xs[k].version_) := by rw [← hV]; simp [go_sem]
      have k2 : V.cell? ⟨wr.heap.size, 2, none⟩ = some (.int .i64 xs[k].old_) := by rw [← hV]; simp [go_sem]
      have k3 : V.cell? ⟨wr.heap.size, 3, none⟩ = some (.int .i64 xs[k].new_) := by rw [← hV]; simp [go_sem]
      have k4 : V.cell? ⟨wr.heap.size, 4, none⟩ = some (.bool xs[k].write_) := by rw [← hV]; simp [go_sem]
      have HBV := hid (show Below w.heap.size w V from hB.trans (bV.mono hB.size))
      have hcut := Entrys.cut (Entrys.below H0.out HBV.out) rfl k hk
      have x0 := Ext.cell hN k0
      have x1 := Ext.cell hN k1
      have x2 := Ext.cell hN k2
      have x3 := Ext.cell hN k3
      have x4 := Ext.cell hN k4
      obtain ⟨P, hP⟩ : ∃ P, Hid (placeC (xs.take k) xs[k].object_ = P) := ⟨_, hid rfl⟩
      have HV := hid hV
      clear hV k0 k1 k2 k3 k4 HC H0 bV
      cases hEq : entryOk xs[k] with
      | false =>
        have hE := hid hEq
        have Hn := hid (show openOk xs = false by rw [Hy.out, hS.out, hst.out, hEq]; rfl)
        clear hEq
        go_wp2_with fail
        rw [HV.out]
        clear e0 e1 e2 e3 e4
        refine wp_region_ext V (Below.refl _ _) (by kernel_rfl) (by kernel_rfl) ?_
        repeat (go_big_quiet_step (first | (go_at_call 62; exact call_ext _ (impl_entryOkIs xs[k] _ _ hE)) | (go_at_call 60; exact call_ext _ (impl_placeOfIs _ (xs.take k) _ _ _ (Ext.flat hcut _) hP.out))))
        refine wpQuiet_nil ?_; rintro _ ⟨E, rfl⟩
        go_wp2
        go_ret
        exact ⟨ret_bool Hn.out.symm, HBV.out.trans (E.h.mono HBV.out.size)⟩
      | true =>
        have hE := hid hEq
        have Hst2 := hid (show openAt xs 0 = (decide (P < 0) && openAt xs (k+1)) by rw [hS.out, hst.out, hEq, hP.out, Bool.true_and])
        clear hEq
        by_cases hp : 0 ≤ P
        · have Hn := hid (show openOk xs = false by rw [Hy.out, Hst2.out, decide_eq_false (by omega)]; rfl)
          go_wp2_with fail
          rw [HV.out]
          clear e0 e1 e2 e3 e4
          refine wp_region_ext V (Below.refl _ _) (by kernel_rfl) (by kernel_rfl) ?_
          repeat (go_big_quiet_step (first | (go_at_call 62; exact call_ext _ (impl_entryOkIs xs[k] _ _ hE)) | (go_at_call 60; exact call_ext _ (impl_placeOfIs _ (xs.take k) _ _ _ (Ext.flat hcut _) hP.out))))
          refine wpQuiet_nil ?_; rintro _ ⟨E, rfl⟩
          go_wp2
          go_ret
          exact ⟨ret_bool Hn.out.symm, HBV.out.trans (E.h.mono HBV.out.size)⟩
        · go_wp2_with fail
          rw [HV.out]
          clear e0 e1 e2 e3 e4
          refine wp_region_ext V (Below.refl _ _) (by kernel_rfl) (by kernel_rfl) ?_
          repeat (go_big_quiet_step (first | (go_at_call 62; exact call_ext _ (impl_entryOkIs xs[k] _ _ hE)) | (go_at_call 60; exact call_ext _ (impl_placeOfIs _ (xs.take k) _ _ _ (Ext.flat hcut _) hP.out))))
          refine wpQuiet_nil ?_; rintro _ ⟨E, rfl⟩
          go_wp2
          go_roundw
          case rel => exact ⟨k+1, by omega, by go_num, Same.mk (by rw [Hst2.out, decide_eq_true (by omega), Bool.true_and]), HBV.out.trans (E.h.mono HBV.out.size)⟩
          case measure => simp [intOf]; omega
    · have Hn := hid (show openOk xs = true by rw [Hy.out, hS.out, openAt_end xs k hlt])
      go_wp2
      go_ret
      exact ⟨ret_bool Hn.out.symm, hB⟩
end Go.Proofs.Ytbbdchlabdilcaa
