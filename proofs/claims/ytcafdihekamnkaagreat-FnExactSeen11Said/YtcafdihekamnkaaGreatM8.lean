/- Chapter 11: what is seen of a world. (printed by tools/mk_s11s.py) -/
import Derived.Test.YtcafdihekamnkaaGreatM7
import Derived.Test.YtcafdihekamnkaaGreatWr3
import Derived.Test.YtcafdihekamnkaaGreatM2
import Derived.Test.YtcafdihekamnkaaGreatProg
import Derived.Test.YtcafdihekamnkaaGreatF6
import Derived.Test.YtcafdihekamnkaaGreatBx
namespace Go.Own
open Go.RowKit
theorem boxset5 {w : World} {lo : Nat} {cs0 : List Value} (hn : cs0.length = 5) (h : BoxF w lo cs0) (a b c d e : Value) : BoxF (((((w.setCell ⟨lo, 0, none⟩ a).setCell ⟨lo, 1, none⟩ b).setCell ⟨lo, 2, none⟩ c).setCell ⟨lo, 3, none⟩ d).setCell ⟨lo, 4, none⟩ e) lo [a, b, c, d, e] ∧ ChgS (fun b => b = lo) w (((((w.setCell ⟨lo, 0, none⟩ a).setCell ⟨lo, 1, none⟩ b).setCell ⟨lo, 2, none⟩ c).setCell ⟨lo, 3, none⟩ d).setCell ⟨lo, 4, none⟩ e) ∧ (((((w.setCell ⟨lo, 0, none⟩ a).setCell ⟨lo, 1, none⟩ b).setCell ⟨lo, 2, none⟩ c).setCell ⟨lo, 3, none⟩ d).setCell ⟨lo, 4, none⟩ e).heap.size = w.heap.size := by
  match cs0, hn with
  | [x, y, z, s, t], _ => exact ⟨((((h.set 0 (by simp) a).set 1 (by simp) b).set 2 (by simp) c).set 3 (by simp) d).set 4 (by simp) e, (((((ChgS.refl (fun k => k = lo) w).set _ _ rfl).set _ _ rfl).set _ _ rfl).set _ _ rfl).set _ _ rfl, by simp [World.setCell]⟩
theorem box_any5 {w : World} {lo : Nat} {cs0 : List Value} (hn : cs0.length = 5) (h : BoxF w lo cs0) : ∃ a b c d e, (w.cell? ⟨lo, 0, none⟩ = some a ∧ w.cell? ⟨lo, 1, none⟩ = some b ∧ w.cell? ⟨lo, 2, none⟩ = some c ∧ w.cell? ⟨lo, 3, none⟩ = some d ∧ w.cell? ⟨lo, 4, none⟩ = some e) ∧ w.frozen? ⟨lo, 0, none⟩ = false ∧ w.frozen? ⟨lo, 1, none⟩ = false ∧ w.frozen? ⟨lo, 2, none⟩ = false ∧ w.frozen? ⟨lo, 3, none⟩ = false ∧ w.frozen? ⟨lo, 4, none⟩ = false := by
  match cs0, hn with
  | [x, y, z, s, t], _ => exact ⟨x, y, z, s, t, ⟨h.1.2 0 (by simp), h.1.2 1 (by simp), h.1.2 2 (by simp), h.1.2 3 (by simp), h.1.2 4 (by simp)⟩, h.2 0 (by simp), h.2 1 (by simp), h.2 2 (by simp), h.2 3 (by simp), h.2 4 (by simp)⟩
end Go.Own
namespace Go.Proofs.YtcafdihekamnkaaGreat
set_option maxRecDepth 100000
open Go.RowKit Go.Proofs Go.Own
def dStat (ds : List DescD) (k : Int) : Int := match ds[k.toNat]? with | some d => d.status_ | none => 0
def entryAt (ds : List DescD) (k : Int) (o : Int) : Option Entry := (entsAt ds k)[(openedC (entsAt ds k) o).toNat]?
def seenE (e : Entry) (x : Int) : Int := if e.write_ = true then e.new_ else x
def seenH (ds : List DescD) (i : Nat) (h : Head) : Int :=
  if 0 ≤ h.desc_ then (if dStat ds h.desc_ = 1 then (match entryAt ds h.desc_ i with | some e => seenE e h.value_ | none => h.value_) else h.value_) else h.value_
theorem seenH_no {ds : List DescD} {i : Nat} {h : Head} (hd : ¬ 0 ≤ h.desc_) : seenH ds i h = h.value_ := if_neg hd
theorem seenH_not {ds : List DescD} {i : Nat} {h : Head} (hs : ¬ dStat ds h.desc_ = 1) : seenH ds i h = h.value_ := by
  unfold seenH; split <;> first | rfl | rw [if_neg hs]
theorem seenH_yes {ds : List DescD} {i : Nat} {h : Head} {e : Entry} (hd : 0 ≤ h.desc_) (hs : dStat ds h.desc_ = 1) (he : entryAt ds h.desc_ i = some e) : seenH ds i h = seenE e h.value_ := by
  unfold seenH; rw [if_pos hd, if_pos hs, he]
def seenTo (hs : List Head) (ds : List DescD) (k : Nat) : List Int := (List.range k).map fun i => match hs[i]? with | some h => seenH ds i h | none => 0
theorem seenTo_succ {hs : List Head} {ds : List DescD} {k : Nat} (h : k < hs.length) : seenTo hs ds (k+1) = seenTo hs ds k ++ [seenH ds k hs[k]] := by
  unfold seenTo
  rw [List.range_succ, List.map_append, List.map_cons, List.map_nil, List.getElem?_eq_getElem h]
theorem seenTo_len (hs : List Head) (ds : List DescD) (k : Nat) : (seenTo hs ds k).length = k := by simp [seenTo]
def seenC (d : WorldD) : List Int := if worldOk d = true then seenTo d.store_.heads_ d.store_.descs_ d.store_.heads_.length else []
theorem worldOk_store {d : WorldD} (h : worldOk d = true) : storeOk d.store_.heads_ d.store_.descs_ = true := by
  unfold worldOk partsOk at h
  simp only [Bool.and_eq_true] at h
  exact h.1.1.1
/-- A head that is held, in a store that is right: its descriptor and its entry there. -/
theorem held_at {hs : List Head} {ds : List DescD} (h : storeOk hs ds = true) (i : Nat) (hi : i < hs.length) : isVal hs[i].value_ = true ∧ (0 ≤ hs[i].version_ ∧ hs[i].version_ ≤ 1000000) ∧ (hs[i].desc_ = -1 ∨ ∃ (k p : Nat) (hk : k < ds.length) (hp : p < ds[k].entries_.length), hs[i].desc_ = (k : Int) ∧ openOk ds[k].entries_ = true ∧ openedC ds[k].entries_ i = (p : Int) ∧ placeC ds[k].entries_ i = (p : Int) ∧ dStat ds (k : Int) = ds[k].status_ ∧ entryAt ds (k : Int) i = some ds[k].entries_[p]) := by
  obtain ⟨-, -, h3, h4⟩ := storeOk_all h
  have z := h4 i hi
  unfold headIn at z
  simp only [Bool.and_eq_true, Bool.not_eq_true', Bool.and_eq_false_iff, decide_eq_false_iff_not] at z
  obtain ⟨⟨⟨z1, z2⟩, z3⟩, z4⟩ := z
  have z2' : 0 ≤ hs[i].version_ ∧ hs[i].version_ ≤ 1000000 := by simpa [inB] using z2
  have z3' : -1 ≤ hs[i].desc_ ∧ hs[i].desc_ ≤ (ds.length : Int) - 1 := by simpa [inB] using z3
  refine ⟨z1, z2', ?_⟩
  by_cases hd : 0 ≤ hs[i].desc_
  case neg => exact .inl (by omega)
  obtain ⟨k, hk⟩ := Int.eq_ofNat_of_zero_le hd
  have hkl : k < ds.length := by omega
  rw [hk] at z4
  rw [entsAt_eq hkl] at z4
  have hge : 0 ≤ openedC ds[k].entries_ i := by
    rcases z4 with z | z
    · omega
    · omega
  have hlt := openedC_lt ds[k].entries_ i
  obtain ⟨p, hp⟩ := Int.eq_ofNat_of_zero_le hge
  have hpl : p < ds[k].entries_.length := by omega
  have ho : openOk ds[k].entries_ = true := by
    have := h3 k hkl
    unfold descIn at this
    simp only [Bool.and_eq_true] at this
    exact descOk_open this.1
  refine .inr ⟨k, p, hkl, hpl, hk, ho, hp, ?_, ?_, ?_⟩
  · rw [← hp]; unfold openedC; rw [if_pos ho]
  · unfold dStat; rw [Int.toNat_natCast, List.getElem?_eq_getElem hkl]
  · unfold entryAt; rw [entsAt_eq hkl, hp, Int.toNat_natCast, List.getElem?_eq_getElem hpl]
end Go.Proofs.YtcafdihekamnkaaGreat
/- Chapter 6's model: an entry that is so, OpenOk, Opened, a list's copy. -/
/- The contracts of the model's small functions. -/
namespace Go.Proofs.YtcafdihekamnkaaGreat
set_option maxRecDepth 100000
open Go.RowKit Go.Proofs Go.Own

theorem spec_l1In (x a b : Int) (w : World) :
    Calls Tryz.prog 100 #[.int .i64 x, .int .i64 a, .int .i64 b] w fun e w' => e = .returned (.bool (inB x a b)) ∧ w = w' := by
  go_enter Tryz.func100, Tryz.ntmps100
  go_wp2
  all_goals go_ret
  all_goals (simp [inB, *]; try omega)

theorem spec_l1Value (x : Int) (w : World) :
    Calls Tryz.prog 134 #[.int .i64 x] w fun e w' => e = .returned (.bool (isVal x)) ∧ w = w' := by
  go_enter Tryz.func134, Tryz.ntmps134
  go_wp2_with (go_at_call 100; refine (spec_l1In _ _ _ _).mono ?_; rintro e w' ⟨rfl, rfl⟩)
  go_ret
  exact ⟨rfl, rfl⟩

theorem infoInt0 : (Tryz.prog.info? 3).map (fun i => (i.zero, i.size, i.bytes)) = some (some (.int .i64 0), 1, 8) := by kernel_rfl
theorem spec_l1Copy (v : Value) (xs : List Int) (w : World) (h : Ints w v xs) (hx : xs.length ≤ 1048576) :
    Calls Tryz.prog 159 #[v] w fun e w' => ∃ v', e = .returned v' ∧ w'.ownsRow w.heap.size 3 1 v' xs.length (xs.flatMap encI) ∧ Below w.heap.size w w' := by
  obtain ⟨i0, hi, hz0, hz1, hz2⟩ := info_parts infoInt0
  have hone := hid (oneCell_enc oneCell_I xs)
  obtain ⟨ad, cap, rfl, hl, hm⟩ := Flat.form h
  have hown : (w.alloc (.cells #[] 3)).ownsRow w.heap.size 3 1 (.slice (some ⟨w.heap.size, 0, none⟩) 0 0) 0 [] := World.ownsRow_made _ _ _ (Nat.le_refl _) (Nat.zero_le _) rfl
  have hB : Below w.heap.size w (w.alloc (.cells #[] 3)) := (Below.refl _ _).alloc (Nat.le_refl _) _
  have h2 := Flat.below h hB
  go_enter Tryz.func159, Tryz.ntmps159
  go_wp2_with (at_builtin; refine wpList_append_flat rfl _ _ 24 rfl w.heap.size 3 i0 (.int .i64 0) 1 8 Tryz.underlying24 hi hz0 hz1 hz2 rfl (by decide) _ _ _ rfl hown _ _ _ rfl h2 hone.out (by unfold maxLen; omega) (by omega) (by simp) ?_)
  intro v' w1 ho hg
  have hB1 := hB.trans (below_of_mark hown hg (Nat.le_refl _) (by simp))
  go_wp2
  go_ret
  exact ⟨_, rfl, ho, hB1⟩


theorem quiet_eq {P : Program} {f : FuncId} {args : Array Value} {w : World} {n : Nat} {v : Value}
    (h : Calls P f args (w.drewN n) fun e w' => e = .returned v ∧ w.drewN n = w') : Calls P f args (w.drewN n) fun e w'' => e = .returned v ∧ ∃ m, w'' = w.drewN m :=
  h.mono fun _ _ ⟨he, hm⟩ => ⟨he, n, hm.symm⟩


/-- A slice cut at k from its beginning. -/
theorem Ints.cut {w : World} {v : Value} {xs : List Int} {b off cap : Nat} (h : Ints w v xs) (hv : v = .slice (some ⟨b, off, none⟩) xs.length cap) (k : Nat) (hk : k ≤ xs.length) : Ints w (.slice (some ⟨b, off, none⟩) k cap) (xs.take k) := by
  obtain ⟨_, a, c, e, h1, h2, _, h3⟩ := h
  rw [hv] at e
  obtain ⟨rfl, rfl⟩ : a = some ⟨b, off, none⟩ ∧ c = cap := by simp at e; exact ⟨e.1.symm, e.2.symm⟩
  have hl : (xs.take k).length = k := by simp; omega
  refine ⟨flatMap_len encI 1 (fun _ => rfl) _, _, _, by rw [hl], by omega, h2, (by intro e; cases e), ?_⟩
  by_cases h0 : k = 0
  · exact .inl (by omega)
  · rcases h3 with h3 | ⟨b', off', ha, hs, hc⟩
    · omega
    · simp only [Option.some.injEq, Addr.mk.injEq, and_true] at ha
      obtain ⟨rfl, rfl⟩ := ha
      refine .inr ⟨b, off, rfl, hs, fun j hj => ?_⟩
      have hj' : j < k := by rw [flatMap_len encI 1 (fun _ => rfl)] at hj; omega
      have hjx : j < (xs.flatMap encI).length := by rw [flatMap_len encI 1 (fun _ => rfl)]; omega
      rw [hc j hjx]
      congr 1
      simp only [encI_map, List.getElem_map, List.getElem_take]

end Go.Proofs.YtcafdihekamnkaaGreat
namespace Go.Proofs.YtcafdihekamnkaaGreat
set_option maxRecDepth 100000
open Go.RowKit Go.Proofs Go.Own
set_option linter.unusedVariables false
set_option linter.unusedSimpArgs false
set_option maxHeartbeats 2000000 in
theorem spec_l6Entry (e : Entry) (w : World) :
    Calls Tryz.prog 191 #[.agg #[.int .i64 e.object_, .int .i64 e.version_, .int .i64 e.old_, .int .i64 e.new_, .bool e.write_]] w fun r w' => r = .returned (.bool (entryOk e)) ∧ Below w.heap.size w w' := by
  obtain ⟨a0, a1, a2, a3, a4⟩ := e
  have hE := hid (show entryOk ⟨a0, a1, a2, a3, a4⟩ = (inB a0 0 7 && inB a1 0 1000000 && isVal a2 && isVal a3 && (a4 || a3 == a2)) from rfl)
  dsimp only
  go_enter Tryz.func191, Tryz.ntmps191
  go_wp2_with (first | (go_at_call 100; refine (spec_l1In _ _ _ _).mono ?_; rintro e w' ⟨rfl, rfl⟩) | (go_at_call 134; refine (spec_l1Value _ _).mono ?_; rintro e w' ⟨rfl, rfl⟩))
  all_goals go_ret
  all_goals refine ⟨ret_bool (by rw [hE.out]; simp [*]), (Below.refl _ _).alloc (Nat.le_refl _) _⟩
/-- The cells of an entry behind a step. -/
theorem cells5 {w wr : World} {b o : Nat} {v0 v1 v2 v3 v4 : Value} (hB : Below w.heap.size w wr) (hb : b < w.heap.size) (c0 : w.cell? ⟨b, o, none⟩ = some v0) (c1 : w.cell? ⟨b, o + 1, none⟩ = some v1) (c2 : w.cell? ⟨b, o + 2, none⟩ = some v2) (c3 : w.cell? ⟨b, o + 3, none⟩ = some v3) (c4 : w.cell? ⟨b, o + 4, none⟩ = some v4) :
    wr.cell? ⟨b, o, none⟩ = some v0 ∧ wr.cell? ⟨b, o + 1, none⟩ = some v1 ∧ wr.cell? ⟨b, o + 2, none⟩ = some v2 ∧ wr.cell? ⟨b, o + 3, none⟩ = some v3 ∧ wr.cell? ⟨b, o + 4, none⟩ = some v4 :=
  ⟨(hB.cell (p := ⟨b, o, none⟩) hb).trans c0, (hB.cell (p := ⟨b, o + 1, none⟩) hb).trans c1, (hB.cell (p := ⟨b, o + 2, none⟩) hb).trans c2, (hB.cell (p := ⟨b, o + 3, none⟩) hb).trans c3, (hB.cell (p := ⟨b, o + 4, none⟩) hb).trans c4⟩
set_option maxHeartbeats 8000000 in
theorem spec_OpenOk (v : Value) (xs : List Entry) (w : World) (h : Entrys w v xs) :
    Calls Tryz.prog 133 #[v] w fun e w' => e = .returned (.bool (openOk xs)) ∧ Below w.heap.size w w' := by
  obtain ⟨ad, cap, rfl, hl, hm, hc⟩ := h.open
  clear h
  have hlen : xs.length ≤ 9223372036854775807 := by omega
  have HC := hid hc
  clear hc
  go_enter Tryz.func133, Tryz.ntmps133
  go_wp2
  go_loopw [3] (fun i wr => ∃ k : Nat, k ≤ xs.length ∧ i = .int .i64 k ∧ Same (openAt xs 0) (openAt xs k) ∧ Below w.heap.size w wr) (fun i _ => xs.length - (intOf i).toNat)
  case atStart => exact ⟨0, by omega, rfl, .rfl, Below.refl _ _⟩
  case round =>
    obtain ⟨k, hk, rfl, hS, hB⟩ := hrel
    by_cases hlt : k < xs.length
    · obtain ⟨bb, off, rfl, hbs, c0, c1, c2, c3, c4⟩ := HC.out k hlt
      obtain ⟨e0, e1, e2, e3, e4⟩ := cells5 hB hbs c0 c1 c2 c3 c4
      have hst := hid (openAt_step xs k hlt)
      clear c0 c1 c2 c3 c4
      cases hE : entryOk xs[k] with
      | false =>
        have Hn := hid (openOk_of_bad k hS.out (by rw [hst.out, hE]; rfl))
        go_wp2_with fail
        refine (spec_l6Entry xs[k] _).mono ?_
        rintro e w2 ⟨rfl, hB1⟩
        rw [hE]
        have hB2 := hB.trans (hB1.mono hB.size)
        go_wp2
        go_ret
        exact ⟨ret_bool Hn.out.symm, hB2⟩
      | true =>
        go_wp2_with fail
        refine (spec_l6Entry xs[k] _).mono ?_
        rintro e w2 ⟨rfl, hB1⟩
        rw [hE]
        have hB2 := hB.trans (hB1.mono hB.size)
        have f0 := (hB2.cell (p := ⟨bb, off + k * 5, none⟩) hbs).trans (HC.out k hlt |> fun ⟨_, _, q, _, c, _⟩ => by cases q; exact c)
        clear e0 e1 e2 e3 e4 hB1 hB f0
        go_wp2
        go_loopw [4] (fun i wq => ∃ m : Nat, m ≤ k ∧ i = .int .i64 m ∧ Same (placeFrom (xs.take k) xs[k].object_ m) (placeC (xs.take k) xs[k].object_) ∧ Below w.heap.size w wq) (fun i _ => k - (intOf i).toNat)
        case atStart => exact ⟨0, by omega, rfl, .rfl, hB2⟩
        case round =>
          clear hB2
          obtain ⟨m, hmk, rfl, hP, hB2⟩ := hrel
          by_cases hlt2 : m < k
          · have hml : m < xs.length := by omega
            have f0 := (hB2.cell (p := ⟨bb, off + k * 5, none⟩) hbs).trans (HC.out k hlt |> fun ⟨_, _, q, _, c, _⟩ => by cases q; exact c)
            have g0 := (hB2.cell (p := ⟨bb, off + m * 5, none⟩) hbs).trans (HC.out m hml |> fun ⟨_, _, q, _, c, _⟩ => by cases q; exact c)
            have hmt : m < (xs.take k).length := by simp; omega
            have hget : (xs.take k)[m] = xs[m] := by simp
            have hst2 := hid (placeFrom_step (xs.take k) xs[k].object_ m hmt)
            rw [hget] at hst2
            clear hget
            by_cases heq : xs[m].object_ = xs[k].object_
            · have Hn := hid (openOk_of_bad k hS.out (by
                rw [hst.out, hE, ← hP.out, hst2.out, if_pos heq, decide_eq_false (by omega)]; rfl))
              go_wp2
              go_quiet (fail)
              go_wp2
              go_ret
              exact ⟨ret_bool Hn.out.symm, below_drewN hB2 _⟩
            · go_wp2
              go_quiet (fail)
              go_wp2
              go_roundw
              case rel => exact ⟨m+1, by omega, by go_num, Same.mk (by have h9 := hst2.out; rw [if_neg heq] at h9; rw [← h9]; exact hP.out), below_drewN hB2 _⟩
              case measure => simp [intOf]; omega
          · have Hp := hid (show placeC (xs.take k) xs[k].object_ < 0 by
              rw [← hP.out, placeFrom_end _ _ _ (by simp; omega)]; omega)
            go_wp2
            go_roundw
            case rel => exact ⟨k+1, by omega, by go_num, Same.mk (by rw [hS.out, hst.out, hE, decide_eq_true Hp.out]; rfl), hB2⟩
            case measure => simp [intOf]; omega
    · have Hy := hid (show openOk xs = decide (xs.length ≤ 6) by unfold openOk; rw [hS.out, openAt_end xs k hlt, Bool.and_true])
      by_cases h6 : (xs.length : Int) ≤ 6
      · go_wp2
        go_ret
        exact ⟨ret_bool (by rw [Hy.out, decide_eq_true (by omega : xs.length ≤ 6)]), hB⟩
      · go_wp2
        go_ret
        exact ⟨ret_bool (by rw [Hy.out, decide_eq_false (by omega : ¬ xs.length ≤ 6)]), hB⟩
set_option maxHeartbeats 8000000 in
theorem spec_Opened0 (v : Value) (xs : List Entry) (o : Int) (w : World) (h : Entrys w v xs) :
    Calls Tryz.prog 111 #[v, .int .i64 o] w fun e w' => e = .returned (.int .i64 (openedC xs o)) ∧ Below w.heap.size w w' := by
  have h0 := h
  obtain ⟨ad, cap, rfl, hl, hm, hc⟩ := h.open
  clear h
  have hlen : xs.length ≤ 9223372036854775807 := by omega
  have HC := hid hc
  clear hc
  cases hO : openOk xs with
  | false =>
    have Hn := hid (show openedC xs o = -1 by unfold openedC; rw [hO]; rfl)
    go_enter Tryz.func111, Tryz.ntmps111
    go_wp2
    go_loopw [5] (fun i wr => i = .int .i64 0 ∧ Below w.heap.size w wr) (fun i _ => xs.length - (intOf i).toNat)
    case atStart => exact ⟨rfl, Below.refl _ _⟩
    case round =>
      obtain ⟨rfl, hB⟩ := hrel
      by_cases hlt : (0 : Int) < (xs.length : Int)
      · have h1 := Entrys.below h0 hB
        go_wp2_with fail
        refine (spec_OpenOk _ xs _ h1).mono ?_
        rintro e w2 ⟨rfl, hB1⟩
        rw [hO]
        have hB2 := hB.trans (hB1.mono hB.size)
        go_wp2
        go_ret
        exact ⟨ret_int Hn.out.symm, hB2⟩
      · go_wp2
        go_ret
        exact ⟨ret_int Hn.out.symm, hB⟩
  | true =>
    have Hy := hid (show openedC xs o = placeC xs o by unfold openedC; rw [hO]; rfl)
    go_enter Tryz.func111, Tryz.ntmps111
    go_wp2
    go_loopw [5] (fun i wr => ∃ k : Nat, k ≤ xs.length ∧ i = .int .i64 k ∧ Same (placeFrom xs o k) (placeC xs o) ∧ Below w.heap.size w wr) (fun i _ => xs.length - (intOf i).toNat)
    case atStart => exact ⟨0, by omega, rfl, .rfl, Below.refl _ _⟩
    case round =>
      obtain ⟨k, hk, rfl, hS, hB⟩ := hrel
      by_cases hlt : k < xs.length
      · have h1 := Entrys.below h0 hB
        have hst := hid (placeFrom_step xs o k hlt)
        go_wp2_with fail
        refine (spec_OpenOk _ xs _ h1).mono ?_
        rintro e w2 ⟨rfl, hB1⟩
        rw [hO]
        have hB2 := hB.trans (hB1.mono hB.size)
        obtain ⟨bb, off, rfl, hbs, c0, -⟩ := HC.out k hlt
        have g0 := (hB2.cell (p := ⟨bb, off + k * 5, none⟩) hbs).trans c0
        clear c0 HC h0 h1
        by_cases heq : xs[k].object_ = o
        · go_wp2
          go_ret
          exact ⟨ret_int (by rw [Hy.out, ← hS.out, hst.out, if_pos heq]), hB2⟩
        · go_wp2
          go_roundw
          case rel => exact ⟨k+1, by omega, by go_num, Same.mk (by have h9 := hst.out; rw [if_neg heq] at h9; rw [← h9]; exact hS.out), hB2⟩
          case measure => simp [intOf]; omega
      · have He := hid (placeFrom_end xs o k hlt)
        go_wp2
        go_ret
        exact ⟨ret_int (by rw [Hy.out, ← hS.out, He.out]), hB⟩
set_option maxHeartbeats 2000000 in
theorem spec_l6Copy (v : Value) (xs : List Entry) (w : World) (h : Entrys w v xs) (hx : xs.length ≤ 1048576) :
    Calls Tryz.prog 129 #[v] w fun e w' => ∃ v', e = .returned v' ∧ w'.ownsRow w.heap.size 146 5 v' xs.length (xs.flatMap Entry.enc) ∧ Below w.heap.size w w' := by
  obtain ⟨i0, hi, hz0, hz1, hz2⟩ := info_parts infoEntry
  have hone := hid (oneCell_enc (f := Entry.enc) (by intro x c hc; simp [Entry.enc] at hc; rcases hc with rfl | rfl | rfl | rfl | rfl <;> rfl) xs)
  obtain ⟨ad, cap, rfl, hl, hm⟩ := Flat.form h
  have hown : (w.alloc (.cells #[] 146)).ownsRow w.heap.size 146 5 (.slice (some ⟨w.heap.size, 0, none⟩) 0 0) 0 [] := World.ownsRow_made _ _ _ (Nat.le_refl _) (Nat.zero_le _) rfl
  have hB : Below w.heap.size w (w.alloc (.cells #[] 146)) := (Below.refl _ _).alloc (Nat.le_refl _) _
  have h2 := Flat.below h hB
  go_enter Tryz.func129, Tryz.ntmps129
  go_wp2_with (at_builtin; refine wpList_append_flat rfl _ _ 39 rfl w.heap.size 146 i0 (.agg #[.int .i64 0, .int .i64 0, .int .i64 0, .int .i64 0, .bool false]) 5 40 Tryz.underlying39 hi hz0 hz1 hz2 rfl (by decide) _ _ _ rfl hown _ _ _ rfl h2 hone.out (by unfold maxLen; omega) (by omega) (by simp) ?_)
  intro v' w1 ho hg
  have hB1 := hB.trans (below_of_mark hown hg (Nat.le_refl _) (by simp))
  go_wp2
  go_ret
  exact ⟨_, rfl, by simpa using ho, hB1⟩
end Go.Proofs.YtcafdihekamnkaaGreat
