/- Chapter 5's program: WriteSchedule. -/
import Derived.Test.YtjcoakgdhiiiaaaDoorI5t
namespace Go.Proofs.YtjcoakgdhiiiaaaDoor
set_option maxRecDepth 100000
open Go.RowKit Go.Proofs Go.Own
set_option linter.unusedVariables false
set_option linter.unusedSimpArgs false
theorem infoStr5 : (Tryd.prog.info? 9).map (fun i => (i.zero, i.size, i.bytes)) = some (some (.string ⟨#[]⟩), 1, 16) := by kernel_rfl
theorem behind_run (X : ByteArray) (r : Run) : behindB (X ++ digS r.thread_.toNat) r.many_ = X ++ runS r := by
  unfold behindB runS
  split
  · rw [ByteArray.append_assoc, ByteArray.append_assoc]
  · rfl
theorem tail_cons (r : Run) (rs : List Run) : Lib.joinTail [32] ((r :: rs).map fun r => (runS r).data.toList) = [32] ++ ((runS r).data.toList ++ Lib.joinTail [32] (rs.map fun r => (runS r).data.toList)) := by
  simp [Lib.joinTail]
theorem textFrom_tail : ∀ (xs : List Run) (acc : ByteArray), textFrom xs acc true = acc ++ BA (Lib.joinTail [32] (xs.map fun r => (runS r).data.toList))
  | [], acc => by apply ByteArray.ext; simp [textFrom, Lib.joinTail, BA]
  | r :: rs, acc => by
    have e : textFrom (r :: rs) acc true = textFrom rs (behindB (acc ++ blankB ++ digS r.thread_.toNat) r.many_) true := rfl
    rw [e, behind_run, textFrom_tail rs, tail_cons, ← BA_app, ← BA_app, BA_eta]
    rw [ByteArray.append_assoc, ByteArray.append_assoc]
    rfl
theorem textFrom_join (xs : List Run) : textFrom xs ByteArray.empty false = BA (Lib.join ((xs.map runS).map (·.data.toList)) (BA [32]).data.toList) := by
  cases xs with
  | nil => rfl
  | cons r rs =>
    have e : textFrom (r :: rs) ByteArray.empty false = textFrom rs (behindB (ByteArray.empty ++ digS r.thread_.toNat) r.many_) true := rfl
    have e2 : (List.map runS rs).map (·.data.toList) = rs.map fun r => (runS r).data.toList := by simp
    rw [e, behind_run, textFrom_tail rs, List.map_cons, List.map_cons, Lib.join_cons, e2, BA_data, ← BA_app, BA_eta]
    rw [ByteArray.empty_append]
theorem runS_size {r : Run} (h : runOk r = true) : (runS r).size ≤ 20 := by
  obtain ⟨⟨a0, a1⟩, b0, b1⟩ := runOk_all h
  have z1 := digS_sizeB r.thread_.toNat (by omega)
  have z2 := digS_sizeB r.many_.toNat (by omega)
  unfold runS
  split
  · have : starB.size = 1 := rfl
    simp [ByteArray.size_append]
    omega
  · omega
theorem tail_len : ∀ (xs : List Run), (∀ k, (hk : k < xs.length) → runOk xs[k] = true) → (Lib.joinTail [32] (xs.map fun r => (runS r).data.toList)).length ≤ 21 * xs.length
  | [], _ => by simp [Lib.joinTail]
  | r :: rs, h => by
    have ih := tail_len rs (fun k hk => by have := h (k+1) (by simp; omega); simpa using this)
    have h0 := runS_size (h 0 (by simp))
    simp only [Lib.joinTail, List.map_cons, List.flatten_cons, List.length_append, List.length_cons, List.length_nil] at ih ⊢
    have e : (runS r).data.toList.length = (runS r).size := rfl
    simp only [List.getElem_cons_zero] at h0
    omega
theorem join_len (xs : List Run) (h : ∀ k, (hk : k < xs.length) → runOk xs[k] = true) (h60 : xs.length ≤ 60) : (Lib.join ((xs.map runS).map (·.data.toList)) (BA [32]).data.toList).length ≤ 140737488355328 := by
  cases xs with
  | nil => simp [Lib.join]
  | cons r rs =>
    have h1 := tail_len rs (fun k hk => by have := h (k+1) (by simp; omega); simpa using this)
    have h0 := runS_size (h 0 (by simp))
    simp only [List.getElem_cons_zero] at h0
    rw [List.map_cons, List.map_cons, Lib.join_cons, List.length_append, List.map_map]
    have e : (runS r).data.toList.length = (runS r).size := rfl
    have e2 : (Lib.joinTail (BA [32]).data.toList (List.map ((fun x => x.data.toList) ∘ runS) rs)) = Lib.joinTail [32] (rs.map fun r => (runS r).data.toList) := rfl
    rw [e2]
    simp only [List.length_cons] at h60
    omega
theorem joinN (bk o c n : Nat) (xs : List ByteArray) (sep : ByteArray) (w : World) (hn : xs.length = n) (hcells : ∀ (j : Nat) x, xs[j]? = some x → w.cell? ⟨bk, o + j, none⟩ = some (.string x)) (hbk : bk < w.heap.size) (hN : n ≤ 140737488355328) (hcap : n ≤ c) (hlen : (Lib.join (xs.map (·.data.toList)) sep.data.toList).length ≤ 140737488355328) :
    Calls Tryd.prog 19 #[.slice (some ⟨bk, o, none⟩) n c, .string sep] w fun e w' => e = .returned (.string (BA (Lib.join (xs.map (·.data.toList)) sep.data.toList))) ∧ Below w.heap.size w w' := by
  subst hn
  exact Tryd.strings_Join bk o c xs sep w hcells hbk hN hcap hlen
set_option maxHeartbeats 4000000 in
theorem impl_WriteSchedule (v : Value) (xs : List Run) (w : World) (h : Runs w v xs) (ht : Tab w) :
    Calls Tryd.prog 8 #[v] w fun e w' => e = .returned (.tuple #[.string (textOf xs), .bool (schedOk xs)]) ∧ Below w.heap.size w w' := by
  have h0 := h
  obtain ⟨i0, hi, hz0, hz1, hz2⟩ := info_parts infoStr5
  obtain ⟨ad, cap, rfl, hl, hm, hc⟩ := h.open
  clear h
  have hlen : xs.length ≤ 9223372036854775807 := by omega
  have HC := hid hc
  clear hc
  cases hok : schedOk xs with
  | false =>
    have hT := hid (show textOf xs = ByteArray.empty by unfold textOf; rw [hok]; rfl)
    go_enter Tryd.func8, Tryd.ntmps8
    go_wp2_with fail
    refine (impl_ScheduleOk _ xs _ h0).mono ?_
    rintro e w1 ⟨rfl, b1⟩
    rw [hok]
    go_wp2
    go_ret2
    exact ⟨by rw [hT.out]; rfl, b1⟩
  | true =>
    have h60 : xs.length ≤ 60 := by unfold schedOk at hok; simp at hok; exact hok.1
    have hget := hid (okFrom_get xs 0 (by unfold schedOk at hok; simp at hok; exact hok.2))
    have hT := hid (show textOf xs = BA (Lib.join ((xs.map runS).map (·.data.toList)) (BA [32]).data.toList) by unfold textOf; rw [hok]; exact textFrom_join xs)
    have hJ := hid (join_len xs hget.out h60)
    obtain ⟨J, hJd⟩ : ∃ J, Hid (BA (Lib.join ((xs.map runS).map (·.data.toList)) (BA [32]).data.toList) = J) := ⟨_, hid rfl⟩
    rw [hJd.out] at hT
    obtain ⟨L, hLd⟩ : ∃ L, Hid (xs.map (fun r => Value.string (runS r)) = L) := ⟨_, hid rfl⟩
    have HL := hid (show L.length = xs.length * 1 by rw [← hLd.out]; simp)
    have HG := hid (show ∀ k, (hk : k < xs.length) → L[k]? = some (.string (runS xs[k])) from fun k hk => by rw [← hLd.out]; simp [hk])
    go_enter Tryd.func8, Tryd.ntmps8
    go_wp2_with fail
    refine (impl_ScheduleOk _ xs _ h0).mono ?_
    rintro e w1 ⟨rfl, b1⟩
    rw [hok]
    go_wp2_with (at_make; refine wpList_make_full _ rfl _ _ 40 rfl (w1.heap.size) 9 i0 (.string ⟨#[]⟩) 1 Tryd.underlying40 hi hz0 hz1 _ _ _ _ xs.length rfl rfl rfl rfl (by rw [hz2]; omega) (by unfold maxLen; omega) (Nat.le_refl _) ?_)
    intro w2 hown hgrow
    have hB := (Below.refl w1.heap.size w1).grown hgrow (Nat.le_refl _) (by simp)
    have hF := Fills.start (l := L) hown HL.out
    clear hown hgrow
    go_wp2
    go_loopw [15] (fun i wr => ∃ k : Nat, k ≤ xs.length ∧ i = .int .i64 k ∧ Fills wr w1.heap.size 9 1 (.slice (some ⟨w1.heap.size, 0, none⟩) xs.length xs.length) xs.length L (k) ∧ Below w1.heap.size w1 wr) (fun i _ => xs.length - (intOf i).toNat)
    case atStart => exact ⟨0, by omega, rfl, hF, hB⟩
    case round =>
      clear hF hB
      obtain ⟨k, hk, rfl, hF, hB⟩ := hrel
      have hBw := b1.trans (hB.mono b1.size)
      by_cases hlt : k < xs.length
      · obtain ⟨bb, off, rfl, hbs, c0, c1⟩ := HC.out k hlt
        obtain ⟨⟨p0, p1⟩, q0, q1⟩ := runOk_all (hget.out k hlt)
        obtain ⟨T, hT2⟩ := Int.eq_ofNat_of_zero_le p0
        obtain ⟨M, hM⟩ := Int.eq_ofNat_of_zero_le (by omega : 0 ≤ xs[k].many_)
        have e0 := (hBw.cell (p := ⟨bb, off + k * 2, none⟩) hbs).trans c0
        have e1 := (hBw.cell (p := ⟨bb, off + k * 2 + 1, none⟩) hbs).trans c1
        rw [hT2] at e0
        rw [hM] at e1
        have l0 := HG.out k hlt
        have hre : xs[k] = ⟨(T : Int), (M : Int)⟩ := by cases hx : xs[k]; rw [hx] at hT2 hM; simp only at hT2 hM; rw [hT2, hM]
        rw [hre] at l0
        obtain ⟨W2, hW2⟩ : ∃ X, wr.alloc (.cells #[Value.int .i64 T, Value.int .i64 M] 37) = X := ⟨_, rfl⟩
        have hB2 : Below wr.heap.size wr W2 := by rw [← hW2]; exact (Below.refl _ _).alloc (Nat.le_refl _) _
        have bx : BoxF W2 wr.heap.size [Value.int .i64 T, Value.int .i64 M] := by rw [← hW2]; exact BoxF.alloc wr #[Value.int .i64 T, Value.int .i64 M] 37
        have g0 := bx.1.2 0 (by simp)
        have g1 := bx.1.2 1 (by simp)
        have hF2 := hF.below hB2
        have t2 : Tab W2 := tab_below ht (hBw.trans (hB2.mono hBw.size))
        clear hF c0 c1 HC hget hre
        go_wp2_with fail
        refine (impl_runText T M (by omega) (by omega) (by omega) W2 t2).mono ?_
        rintro e w3 ⟨rfl, b3⟩
        have hF3 := hF2.below b3
        have hB12 := hB.trans (hB2.mono hB.size)
        have hB3 := hB12.trans (b3.mono hB12.size)
        obtain ⟨g, hg, hbg, hgs, hcells⟩ := hF3.at HL.out (by rw [HL.out]; omega)
        obtain rfl := (Addr.mk.inj (Option.some.inj hg)).1
        obtain ⟨⟨u0, hu0⟩, hf0⟩ := hcells k (by rw [HL.out]; omega)
        have hF4 := (hF3.store _ l0).1
        have hB4 := hB3.setCell (p := ⟨w1.heap.size, k, none⟩) (Nat.le_refl _) (.string (runS ⟨T, M⟩))
        clear hW2 hF2 hF3 hB12 hB3 hcells hg l0 bx g0 g1 e0 e1
        go_wp2
        go_roundw
        case rel => exact ⟨k+1, by omega, by go_num, hF4, hB4⟩
        case measure => simp [intOf]; omega
      · have o := hF.done (by rw [HL.out]; omega)
        have hcs : ∀ (j : Nat) x, (xs.map runS)[j]? = some x → wr.cell? ⟨w1.heap.size, 0 + j, none⟩ = some (.string x) := fun j x hx => by
          have hj : j < xs.length := by
            have := (List.getElem?_eq_some_iff.1 hx).1
            simpa using this
          rw [Nat.zero_add, o.cellAt j (by omega), HG.out j hj]
          rw [List.getElem?_map, List.getElem?_eq_getElem hj] at hx
          exact congrArg (fun y => some (Value.string y)) (Option.some.inj hx)
        have hcs2 := hid hcs
        have hbk := (owns_lt o).2
        clear hcs hF HC hget
        go_wp2_with fail
        refine (joinN w1.heap.size 0 xs.length xs.length (xs.map runS) (BA [32]) wr (by simp) hcs2.out hbk (by omega) (Nat.le_refl _) hJ.out).mono ?_
        rintro e w4 ⟨he, b4⟩
        rw [hJd.out] at he
        subst he
        go_wp2
        go_ret2
        exact ⟨by rw [hT.out]; rfl, hBw.trans (b4.mono hBw.size)⟩
theorem impl_WriteScheduleW (v : Value) (xs : List Run) (w : World) (h : Runs w v xs) (hx : xs.length ≤ 1048576) (ht : Tab w) :
    Calls Tryd.prog 8 #[v] w fun e w' => e = .returned (.tuple #[.string (textOf xs), .bool (schedOk xs)]) ∧ Below w.heap.size w w' := impl_WriteSchedule v xs w h ht
end Go.Proofs.YtjcoakgdhiiiaaaDoor
