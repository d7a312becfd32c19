/- Chapter 6's program: entries put in order; MakeDesc. -/
import Derived.Test.YtmfepmbkgomlcaaLay
import Derived.Test.YtmfepmbkgomlcaaI6d
import Derived.Test.YtmfepmbkgomlcaaI6e
import Derived.Test.YtmfepmbkgomlcaaF6s
namespace Go.Proofs.Ytmfepmbkgomlcaa
set_option maxRecDepth 100000
open Go.RowKit Go.Proofs Go.Own
open Go.Shelf
set_option linter.unusedVariables false
set_option linter.unusedSimpArgs false
instance : Inhabited Entry := ⟨⟨0, 0, 0, 0, false⟩⟩
def cfE (x y : Entry) : Int := cmpC x.object_ y.object_
theorem lt_E (x y : Entry) : Go.Proofs.ltOf cfE x y = decide (x.object_ < y.object_) := by
  unfold Go.Proofs.ltOf cfE cmpC
  by_cases h1 : x.object_ < y.object_
  · simp [h1]
  · by_cases h2 : y.object_ < x.object_ <;> simp [h1, h2]
theorem swo_E : Go.Sort.SWO (Go.Proofs.ltOf cfE) where
  irrefl x := by rw [lt_E]; simp
  trans x y z h1 h2 := by rw [lt_E] at *; simp at *; omega
  ntrans x y z h1 h2 := by rw [lt_E] at *; simp at *; omega
theorem flatK_E (d : List Entry) : (Go.Sort.flatK Entry.enc 5 d.toArray).toList = d.flatMap Entry.enc := by
  apply List.ext_getElem?
  intro t
  have hl : (d.flatMap Entry.enc).length = d.length * 5 := flatMap_len Entry.enc 5 (fun _ => rfl) d
  by_cases h : t < d.length * 5
  · have h2 : t < (Go.Sort.flatK Entry.enc 5 d.toArray).size := by simpa using h
    have e1 := Go.Sort.get_flatK Entry.enc 5 d.toArray t (by simpa using h)
    rw [getElem!_pos _ t h2] at e1
    have hk : t / 5 < d.length := by omega
    have e2 := flatMap_get Entry.enc 5 (fun _ => rfl) d (t / 5) hk (t % 5) (by omega)
    rw [show t / 5 * 5 + t % 5 = t by omega] at e2
    rw [e2, Array.getElem?_toList, Array.getElem?_eq_getElem h2, e1]
    have hj : t % 5 < (Entry.enc d[t / 5]).length := by show _ < 5; omega
    rw [getElem!_pos d.toArray (t / 5) (by simpa using hk), List.getElem?_eq_getElem hj]
    simp only [List.getElem_toArray]
    rw [getElem!_pos (Entry.enc d[t / 5]) (t % 5) hj]
  · have h3 : (Go.Sort.flatK Entry.enc 5 d.toArray).toList.length ≤ t := by simp; omega
    rw [List.getElem?_eq_none h3, List.getElem?_eq_none (by rw [hl]; omega)]
/-- A row of the call's own behind the sort. -/
theorem owns_sorted {w : World} {base e g cap n m : Nat} {xs ys : List Entry} {os : Array Obj} (h : w.ownsRow base e 5 (.slice (some ⟨g, 0, none⟩) n cap) n (xs.flatMap Entry.enc)) (hx : xs.length = n) (hy : ys.length = n) :
    (Go.Proofs.sortWorldK Entry.enc 5 w g 0 m ys.toArray os).ownsRow base e 5 (.slice (some ⟨g, 0, none⟩) n cap) n (ys.flatMap Entry.enc) ∧ ∀ N, N ≤ g → Below N w (Go.Proofs.sortWorldK Entry.enc 5 w g 0 m ys.toArray os) := by
  have hyl : (ys.flatMap Entry.enc).length = n * 5 := by rw [flatMap_len Entry.enc 5 (fun _ => rfl), hy]
  rcases h.2 with ⟨h1, h2⟩ | ⟨g', cap', cur, hv, hb, hg, hn, hm, hs, ht⟩
  · cases h1
  · simp only [Value.slice.injEq, Option.some.injEq, Addr.mk.injEq, and_true, true_and] at hv
    obtain ⟨rfl, rfl⟩ := hv
    have hgs : g < w.heap.size := (Array.getElem?_eq_some_iff.1 hg).1
    have hheap : ∀ k, k < w.heap.size → (Go.Proofs.sortWorldK Entry.enc 5 w g 0 m ys.toArray os).heap[k]? = if g = k then w.heap[k]?.map (Go.Sort.onCells (Go.Sort.putCells id 0 (Go.Sort.flatK Entry.enc 5 ys.toArray))) else w.heap[k]? := by
      intro k hk
      unfold Go.Proofs.sortWorldK Go.Sort.putRowK Go.Sort.putRow Go.Sort.mapBlock Go.Sort.grow Go.Sort.ahead
      simp only [Array.getElem?_append, Array.size_modify, Array.getElem?_modify]
      rw [if_pos hk]
    refine ⟨⟨hyl, .inr ⟨g, cap, Go.Sort.putCells id 0 (Go.Sort.flatK Entry.enc 5 ys.toArray) cur, rfl, hb, ?_, hn, hm, ?_, ?_⟩⟩, fun N hN => ⟨rfl, rfl, rfl, ?_, fun k hk => ?_⟩⟩
    · rw [hheap g hgs, if_pos rfl, hg]; rfl
    · simp [Go.Sort.putCells, hs]
    · rw [← flatK_E ys]
      apply List.ext_getElem?
      intro t
      have hsz : (Go.Sort.flatK Entry.enc 5 ys.toArray).size = n * 5 := by simp [hy]
      by_cases ht2 : t < n * 5
      · have htc : t < cur.size := by
          have : n * 5 ≤ cap * 5 := Nat.mul_le_mul_right 5 hn
          omega
        rw [List.getElem?_take_of_lt ht2, Array.getElem?_toList, Array.getElem?_toList]
        simp only [Go.Sort.putCells, Array.getElem?_mapIdx, Array.getElem?_eq_getElem htc, Option.map_some, Nat.sub_zero, Nat.zero_add, hsz]
        rw [if_pos ⟨Nat.zero_le _, ht2⟩, Array.getElem?_eq_getElem (by rw [hsz]; exact ht2), getElem!_pos _ t (by rw [hsz]; exact ht2)]
        rfl
      · rw [List.getElem?_eq_none (by simp; omega), List.getElem?_eq_none (by simp [hy]; omega)]
    · show _ ≤ (Go.Sort.grow _ os).heap.size
      rw [Go.Sort.size_grow]
      unfold Go.Sort.putRowK
      rw [Go.Sort.size_putRow]
      exact Nat.le_add_right _ _
    · rw [hheap k (by omega), if_neg (by omega)]
theorem byObject_grow (x y : Entry) (W : World) : Calls Try.prog 47 #[.agg #[.int .i64 x.object_, .int .i64 x.version_, .int .i64 x.old_, .int .i64 x.new_, .bool x.write_], .agg #[.int .i64 y.object_, .int .i64 y.version_, .int .i64 y.old_, .int .i64 y.new_, .bool y.write_]] W fun e w' => e = .returned (.int .i64 (cfE x y)) ∧ ∃ q os', w' = Go.Sort.grow (W.drewN q) os' := by
  refine (impl_byObject x y W).mono ?_
  rintro e w' ⟨rfl, rfl⟩
  exact ⟨rfl, 0, _, by rw [Go.Sort.alloc_eq_grow, Go.Sort.alloc_eq_grow, Go.Sort.grow_grow]; rfl⟩
set_option maxHeartbeats 1000000 in
theorem impl_SortFunc (xs : List Entry) (base g cap : Nat) (w : World) (h : w.ownsRow base 53 5 (.slice (some ⟨g, 0, none⟩) xs.length cap) xs.length (xs.flatMap Entry.enc)) (hx : xs.length ≤ 12) :
    Calls Try.prog 52 #[.slice (some ⟨g, 0, none⟩) xs.length cap, .func (.func 47) #[] #[]] w fun e w' => e = .returned (.tuple #[]) ∧ ∃ ys : List Entry, ys.Perm xs ∧ (∀ i j, (hi : i < j) → (hj : j < ys.length) → ys[i].object_ ≤ ys[j].object_) ∧
      w'.ownsRow base 53 5 (.slice (some ⟨g, 0, none⟩) xs.length cap) xs.length (ys.flatMap Entry.enc) ∧ ∀ N, N ≤ g → Below N w w' := by
  have eg : ∀ args w, (callFunc 47 args).run Try.prog w = .ok (.enter 47 args) w := enters_of Try.func47 (by kernel_rfl) rfl
  have hlen : ∀ (n : Nat) (W : World), n ≤ 12 → Calls Try.prog 55 #[.int .u64 n] W fun e w' => (∃ l : Int, e = .returned (.int .i64 l)) ∧ w' = W := fun n W hn =>
    (Any.bits_Len Try.bitsLen n W (by omega) (by omega)).mono fun _ _ ⟨he, hw⟩ => ⟨⟨_, he⟩, hw⟩
  have hcmp : Go.Proofs.CmpLays Try.prog 47 #[] Entry.enc 5 cfE g 0 xs.toArray.size w := fun m os dk _ x y =>
    byObject_grow x y _
  have hH : Go.Sort.HoldsK Entry.enc 5 w g 0 xs.toArray := by
    intro j hj
    have hj2 : j < xs.length * 5 := by simpa using hj
    have hc := h.cellAt j (by have := h.1; omega)
    refine ⟨?_, by rw [Nat.zero_add]; exact h.frozenAt j⟩
    rw [Nat.zero_add, hc, ← flatK_E xs, Array.getElem?_toList, Array.getElem?_eq_getElem hj, getElem!_pos _ j hj]
    rfl
  have hcon := AnyQ.slices_SortFunc_small_sorted Try.sortE 5 Try.isAgg53 Try.sizeOf53 Entry.enc (fun _ => rfl) oneCell_E cfE 47 #[] swo_E g 0 cap xs.toArray w eg hcmp hH (owns_lt h).2 (by simpa using hx) hlen
  refine Calls.mono (show Calls Try.prog 52 #[.slice (some ⟨g, 0, none⟩) xs.length cap, .func (.func 47) #[] #[]] w _ from hcon) ?_
  rintro e w' ⟨rfl, d', m, os, hp, hs, rfl⟩
  obtain ⟨ys⟩ := d'
  obtain ⟨p1, _, p2⟩ := hp
  have hyl : ys.length = xs.length := by simpa using p1
  have hperm : ys.Perm xs := by
    have e1 : ((⟨ys⟩ : Array Entry).extract 0 xs.toArray.size).toList = ys := by simp [← hyl]
    have e2 : (xs.toArray.extract 0 xs.toArray.size).toList = xs := by simp
    rw [e1, e2] at p2
    exact p2
  refine ⟨rfl, ys, hperm, fun i j hi hj => ?_, owns_sorted h rfl hyl⟩
  have h9 := hs i j (Nat.zero_le _) hi (by simp; omega)
  rw [lt_E, decide_eq_false_iff_not, getElem!_pos (⟨ys⟩ : Array Entry) j hj, getElem!_pos (⟨ys⟩ : Array Entry) i (Nat.lt_trans hi hj)] at h9
  exact Int.not_lt.1 h9
set_option maxHeartbeats 4000000 in
theorem impl_sortedBy (v : Value) (xs : List Entry) (w : World) (h : Entrys w v xs) (ho : openOk xs = true) (h0 : 0 < xs.length) :
    Calls Try.prog 48 #[v, .func (.func 47) #[] #[]] w fun e w' => ∃ v' : Value, e = .returned v' ∧ w'.ownsRow w.heap.size 53 5 v' (sortC xs).length ((sortC xs).flatMap Entry.enc) ∧ Below w.heap.size w w' := by
  have H0 := hid h
  have h6 := openOk_len ho
  obtain ⟨i0, hi, hz0, hz1, hz2⟩ := info_parts infoEntry
  have hone := hid (oneCells_E xs)
  obtain ⟨ad, cap, rfl, hl, hm⟩ := Flat.form h
  clear h
  go_enter Try.func48, Try.ntmps48
  go_wp2_with (at_builtin; refine wpList_append_flat rfl _ _ 25 rfl w.heap.size 53 i0 (.agg #[.int .i64 0, .int .i64 0, .int .i64 0, .int .i64 0, .bool false]) 5 40 Try.underlying25 hi hz0 hz1 hz2 rfl (by decide) _ _ _ rfl (World.ownsRow_nil w w.heap.size 53 5) _ _ _ rfl H0.out hone.out (by unfold maxLen; omega) (by omega) (Nat.le_refl _) ?_)
  intro u w2 o2 g2
  have b2 := below_of_mark (World.ownsRow_nil w w.heap.size 53 5) g2 (Nat.le_refl _) (Nat.le_refl _)
  obtain ⟨a, cap2, rfl, hc1, hc2⟩ := owns_form o2
  obtain ⟨g, rfl⟩ : ∃ g, a = some ⟨g, 0, none⟩ := by
    rcases o2.2 with ⟨e1, e2⟩ | ⟨g, c2, cur, e1, _⟩
    · omega
    · simp only [Value.slice.injEq, true_and] at e1; exact ⟨g, e1.1⟩
  clear H0 g2 hone
  go_wp2_with fail
  refine (impl_SortFunc xs w.heap.size g cap2 w2 o2 (by omega)).mono ?_
  rintro e w3 ⟨rfl, ys, hp, hs, o3, hb3⟩
  have hg := (owns_lt o2).1
  have b3 := b2.trans (hb3 w.heap.size hg)
  have hys : ys = sortC xs := sortC_of ho hp hs
  have o4 := hid (show w3.ownsRow w.heap.size 53 5 (.slice (some ⟨g, 0, none⟩) xs.length cap2) (sortC xs).length ((sortC xs).flatMap Entry.enc) by
    rw [← hys]; have hl9 := hp.length_eq; rw [hl9]; exact o3)
  clear o2 o3 hb3 hys hs hp
  go_wp2
  go_ret
  exact ⟨_, rfl, o4.out, b3⟩
set_option maxHeartbeats 4000000 in
theorem impl_MakeDesc0 (ow : Int) (v : Value) (xs : List Entry) (w : World) (h : Entrys w v xs) :
    Calls Try.prog 29 #[.int .i64 ow, v] w fun e w' => ∃ v' : Value, e = .returned (.tuple #[.agg #[.int .i64 (makeOw ow xs), .int .i64 0, v'], .bool (makeOk ow xs)]) ∧ w'.ownsRow w.heap.size 53 5 v' (makeL ow xs).length ((makeL ow xs).flatMap Entry.enc) ∧ Below w.heap.size w w' := by
  have H0 := hid h
  obtain ⟨ad, cap, rfl, hl, hm⟩ := Flat.form h
  have hlen : xs.length ≤ 9223372036854775807 := by omega
  clear h
  obtain ⟨W1, hW1⟩ : ∃ X, w.alloc (.cells #[.int .i64 0, .int .i64 0, Value.slice none 0 0] 42) = X := ⟨_, rfl⟩
  have hB1 : Below w.heap.size w W1 := by rw [← hW1]; exact (Below.refl _ _).alloc (Nat.le_refl _) _
  have hN : W1.heap.size = w.heap.size + 1 := by rw [← hW1]; simp
  have bx1 : BoxF W1 w.heap.size [.int .i64 0, .int .i64 0, Value.slice none 0 0] := by rw [← hW1]; exact BoxF.alloc _ _ _
  have r0 : W1.cell? ⟨w.heap.size, 0, none⟩ = some (.int .i64 0) := bx1.1.2 0 (by simp)
  have r1 : W1.cell? ⟨w.heap.size, 1, none⟩ = some (.int .i64 0) := bx1.1.2 1 (by simp)
  have r2 : W1.cell? ⟨w.heap.size, 2, none⟩ = some (Value.slice none 0 0) := bx1.1.2 2 (by simp)
  have s0 : W1.frozen? ⟨w.heap.size, 0, none⟩ = false := bx1.2 0 (by simp)
  have s1 : W1.frozen? ⟨w.heap.size, 1, none⟩ = false := bx1.2 1 (by simp)
  have s2 : W1.frozen? ⟨w.heap.size, 2, none⟩ = false := bx1.2 2 (by simp)
  have h1 := hid (Entrys.below H0.out hB1)
  cases hA : inB ow 0 3 with
  | false =>
    have Hk := hid (show makeOk ow xs = false by unfold makeOk; rw [hA]; rfl)
    have Hw := hid (show makeOw ow xs = 0 by unfold makeOw; rw [Hk.out]; rfl)
    have HL := hid (show makeL ow xs = [] by unfold makeL; rw [Hk.out]; rfl)
    go_enter Try.func29, Try.ntmps29
    go_wp2_with (go_at_call 44; refine (impl_isThread _ _).mono ?_; rintro e w' ⟨rfl, rfl⟩)
    refine bodyPost_ret (v := .tuple #[.agg #[.int .i64 0, .int .i64 0, Value.slice none 0 0], .bool false]) ?_ rfl ⟨_, by rw [Hk.out, Hw.out], by rw [HL.out]; exact World.ownsRow_nil _ _ _ _, ?_⟩
    · simp [results, Try.results29, go_sem, r0, r1, r2, s0, s1, s2]
    · exact ((hB1.setCell (Nat.le_refl _) _).setCell (Nat.le_refl _) _).setCell (Nat.le_refl _) _
  | true =>
  go_enter Try.func29, Try.ntmps29
  go_wp2_with (go_at_call 44; refine (impl_isThread _ _).mono ?_; rintro e w' ⟨rfl, rfl⟩)
  clear hW1
  refine (impl_OpenOk _ xs _ h1.out).mono ?_
  rintro e w2 ⟨rfl, b2⟩
  have bx2 := bx1.below b2
  have hB2 := hB1.trans (b2.mono (by omega))
  have hN2 : w.heap.size < w2.heap.size := by have := b2.size; omega
  have h2 := hid (Entrys.below h1.out b2)
  clear r0 r1 r2 s0 s1 s2 bx1 hB1 hN h1 b2
  have r0 : w2.cell? ⟨w.heap.size, 0, none⟩ = some (.int .i64 0) := bx2.1.2 0 (by simp)
  have r1 : w2.cell? ⟨w.heap.size, 1, none⟩ = some (.int .i64 0) := bx2.1.2 1 (by simp)
  have r2 : w2.cell? ⟨w.heap.size, 2, none⟩ = some (Value.slice none 0 0) := bx2.1.2 2 (by simp)
  have s0 : w2.frozen? ⟨w.heap.size, 0, none⟩ = false := bx2.2 0 (by simp)
  have s1 : w2.frozen? ⟨w.heap.size, 1, none⟩ = false := bx2.2 1 (by simp)
  have s2 : w2.frozen? ⟨w.heap.size, 2, none⟩ = false := bx2.2 2 (by simp)
  cases hO : openOk xs with
  | false =>
    have Hk := hid (show makeOk ow xs = false by unfold makeOk; rw [hO, Bool.and_false]; rfl)
    have Hw := hid (show makeOw ow xs = 0 by unfold makeOw; rw [Hk.out]; rfl)
    have HL := hid (show makeL ow xs = [] by unfold makeL; rw [Hk.out]; rfl)
    go_wp2
    refine bodyPost_ret (v := .tuple #[.agg #[.int .i64 0, .int .i64 0, Value.slice none 0 0], .bool false]) ?_ rfl ⟨_, by rw [Hk.out, Hw.out], by rw [HL.out]; exact World.ownsRow_nil _ _ _ _, ?_⟩
    · simp [results, Try.results29, go_sem, r0, r1, r2, s0, s1, s2]
    · exact ((hB2.setCell (Nat.le_refl _) _).setCell (Nat.le_refl _) _).setCell (Nat.le_refl _) _
  | true =>
  by_cases h0 : xs.length = 0
  · have h0' : ((xs.length : Int) == 0) = true := by rw [beq_iff_eq]; omega
    have Hk := hid (show makeOk ow xs = false by unfold makeOk; rw [decide_eq_false (by omega), Bool.and_false])
    have Hw := hid (show makeOw ow xs = 0 by unfold makeOw; rw [Hk.out]; rfl)
    have HL := hid (show makeL ow xs = [] by unfold makeL; rw [Hk.out]; rfl)
    clear h0
    go_wp2
    refine bodyPost_ret (v := .tuple #[.agg #[.int .i64 0, .int .i64 0, Value.slice none 0 0], .bool false]) ?_ rfl ⟨_, by rw [Hk.out, Hw.out], by rw [HL.out]; exact World.ownsRow_nil _ _ _ _, ?_⟩
    · simp [results, Try.results29, go_sem, r0, r1, r2, s0, s1, s2]
    · exact ((hB2.setCell (Nat.le_refl _) _).setCell (Nat.le_refl _) _).setCell (Nat.le_refl _) _
  have h0' : ((xs.length : Int) == 0) = false := by rw [beq_eq_false_iff_ne]; omega
  have Hk := hid (show makeOk ow xs = true by unfold makeOk; rw [hO, hA, decide_eq_true (by omega)]; rfl)
  have Hw := hid (show makeOw ow xs = ow by unfold makeOw; rw [Hk.out]; rfl)
  have HL := hid (show makeL ow xs = sortC xs by unfold makeL; rw [Hk.out]; rfl)
  go_wp2_with fail
  refine (impl_sortedBy _ xs _ h2.out hO (by omega)).mono ?_
  rintro e w3 ⟨u, rfl, o3, b3⟩
  obtain ⟨a3, m3, c3, rfl⟩ := owns_form3 o3
  have bx3 := bx2.below b3
  have hB3 := hB2.trans (b3.mono hB2.size)
  clear r0 r1 r2 s0 s1 s2 bx2 h2 b3
  have r0 : w3.cell? ⟨w.heap.size, 0, none⟩ = some (.int .i64 0) := bx3.1.2 0 (by simp)
  have r1 : w3.cell? ⟨w.heap.size, 1, none⟩ = some (.int .i64 0) := bx3.1.2 1 (by simp)
  have r2 : w3.cell? ⟨w.heap.size, 2, none⟩ = some (Value.slice none 0 0) := bx3.1.2 2 (by simp)
  have s0 : w3.frozen? ⟨w.heap.size, 0, none⟩ = false := bx3.2 0 (by simp)
  have s1 : w3.frozen? ⟨w.heap.size, 1, none⟩ = false := bx3.2 1 (by simp)
  have s2 : w3.frozen? ⟨w.heap.size, 2, none⟩ = false := bx3.2 2 (by simp)
  have Ho := hid o3
  clear o3
  go_wp2
  refine bodyPost_ret (v := .tuple #[.agg #[.int .i64 ow, .int .i64 0, Value.slice a3 m3 c3], .bool true]) ?_ rfl ⟨_, by rw [Hk.out, Hw.out], ?_, ?_⟩
  · simp [results, Try.results29, go_sem, r0, r1, r2, s0, s1, s2]
  · rw [HL.out]
    exact owns_mono (owns_setCell (owns_setCell (owns_setCell Ho.out _ _ hN2) _ _ hN2) _ _ hN2) (by omega)
  · exact ((hB3.setCell (Nat.le_refl _) _).setCell (Nat.le_refl _) _).setCell (Nat.le_refl _) _
end Go.Proofs.Ytmfepmbkgomlcaa
