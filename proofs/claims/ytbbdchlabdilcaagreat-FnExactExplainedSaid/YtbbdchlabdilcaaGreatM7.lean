/- An append of one datum to a list of the call's own that lies in a box: what there is then. Of any program. -/
import Derived.Test.YtbbdchlabdilcaaGreatM5
import Derived.Test.YtbbdchlabdilcaaGreatM3
import Derived.Test.YtbbdchlabdilcaaGreatM6
import Derived.StillTailTactics
namespace Go.Own
open Go.RowKit
set_option linter.unusedVariables false
theorem cell_same {w w' : World} {b o : Nat} (h : w'.heap[b]? = w.heap[b]?) : w'.cell? ⟨b, o, none⟩ = w.cell? ⟨b, o, none⟩ := by simp [World.cell?, h]
theorem frozen_same {w w' : World} {b o : Nat} (h : w'.heap[b]? = w.heap[b]?) : w'.frozen? ⟨b, o, none⟩ = w.frozen? ⟨b, o, none⟩ := by simp [World.frozen?, h]
theorem BoxF.same {w w' : World} {b : Nat} {cs : List Value} (h : BoxF w b cs) (e : w'.heap[b]? = w.heap[b]?) (hs : w.heap.size ≤ w'.heap.size) : BoxF w' b cs :=
  ⟨⟨Nat.lt_of_lt_of_le h.1.1 hs, fun j hj => (cell_same e).trans (h.1.2 j hj)⟩, fun j hj => (frozen_same e).trans (h.2 j hj)⟩
theorem BoxF.chg {w w' : World} {S : Nat → Prop} {b : Nat} {cs : List Value} (h : BoxF w b cs) (C : ChgS S w w') (hn : ¬ S b) : BoxF w' b cs := h.same (C.block b h.1.1 hn) C.size
theorem ChgS.set {S : Nat → Prop} {w w' : World} (h : ChgS S w w') (p : Addr) (v : Value) (hp : S p.block) : ChgS S w (w'.setCell p v) :=
  ⟨h.os, h.tape, h.output, by simpa [World.setCell] using h.size, fun k hk hs => (heap_setCell_other _ _ k _ (fun e => hs (by rw [e]; exact hp))).trans (h.block k hk hs)⟩
theorem ChgS.alloc {S : Nat → Prop} {w w' : World} (h : ChgS S w w') (o : Obj) : ChgS S w (w'.alloc o) := h.trans (ChgS.of_below ((Below.refl _ _).alloc (Nat.le_refl _) _) S)
theorem ownL.chg {α : Type} [A : Enc α] {S T : Nat → Prop} {w w' : World} {v : Value} {xs : List α} (h : ownL S w v xs) (C : ChgS T w w') (hs : ∀ b, S b → b < w.heap.size ∧ ¬ T b) : ownL S w' v xs := h.keep fun b hb => C.block b (hs b hb).1 (hs b hb).2
section
variable {P : Program}
/-- As step_append_flat, with the place of the row. -/
theorem step_append_at {ops : Array Oper} {o : Oper} {a : Act} {w : World} {K : Act → World → Prop} {Q : Exit → Act → World → Prop} {E : Prop}
    (hg : o.guard = none) (s x : Operand) (t : TypeId) (hop : o.op = Op.call { callee := Callee.builtin Builtin.append, args := #[s, x], argTypes := #[t, t] })
    (base : Nat) (e : TypeId) (i : TypeInfo) (z : Value) (size bytes : Nat) (ht : P.underlying t = some (.slice e)) (hi : P.info? e = some i) (hz : i.zero = some z)
    (hsize : i.size = size) (hby : i.bytes = bytes) (hzs : z.cells.size = size) (hsz : 0 < size)
    (v : Value) (n : Nat) (xs : List Value) (hs : a.eval s = v) (hown : w.ownsRow base e size v n xs)
    (u : Value) (m : Nat) (news : List Value) (hx : a.eval x = u) (hu : Flat w u m size news) (hm : 0 < m) (h1 : ∀ c ∈ news, c.oneCell' = true)
    (h63 : n + m ≤ maxLen) (hbytes : (n + m) * bytes ≤ 140737488355328) (hbase : base ≤ w.heap.size)
    (hK : ∀ v' w', w'.ownsRow base e size v' (n + m) (xs ++ news) → w.grownBy w' v.ownBlock → (∀ k, v'.ownBlock = some k → v.ownBlock = some k ∨ k = w.heap.size) → K (a.put o.dst v') w') :
    if Region.wanted o (yielded ops a.tmps) = true then Oper.wp P o a w K Q else E := by
  have hw : Region.wanted o (yielded ops a.tmps) = true := by simp [Region.wanted, hg]
  rw [if_pos hw]
  rcases hu.src with ⟨rfl, rfl, rfl⟩ | ⟨ad, cap, rfl, hl, hc⟩
  · omega
  · obtain ⟨v', w', hrun, r1, r2, _⟩ := run_append_own (P := P) (w := w) base t o.type e i z size bytes ht hi hz hsize hby hzs hsz v n xs hown ad m cap news hl hc h1 h63 hbytes hbase
    have hp := append_place (P := P) base t o.type e i z size bytes ht hi hz hsize hby v n xs hown ad m cap news hl hc h1 h63 hbytes hm hrun
    unfold Oper.wp
    simp [execOp, hop, resolve, invoke, builtin, hs, hx, hrun, Result.andThen]
    exact hK v' w' r1 r2 hp
end
/-- A list of the call's own lies in cell j of a box (block M); a datum is made; its cells are laid as a literal; the list is appended to, and laid in its cell. -/
theorem append_box {α : Type} [A : Enc α] {S T5 : Nat → Prop} {V w5 : World} {M j dm : Nat} {da : Option Addr} {dc : Nat} {bs : List Value} {xs : List α} {x : α} {c : List Value}
    (OD : ownL S V (.slice da dm dc) xs) (hS : ∀ b, S b → b < V.heap.size ∧ b ≠ M) (hM : BoxF V M bs) (hj : j < bs.length) (b5 : Below V.heap.size V w5) (o5 : A.own T5 w5 c x) (hT : ∀ b, T5 b → V.heap.size ≤ b ∧ b < w5.heap.size) :
    dm = xs.length ∧ ∃ css : List (List Value), (w5.alloc (.cells c.toArray A.ty)).ownsRow 0 A.ty A.sz (.slice da dm dc) dm css.flatten ∧ Flat (w5.alloc (.cells c.toArray A.ty)) (.slice (some ⟨w5.heap.size, 0, none⟩) 1 1) 1 A.sz c ∧
    ∀ v8 w8, w8.ownsRow 0 A.ty A.sz v8 (dm + 1) (css.flatten ++ c) → (w5.alloc (.cells c.toArray A.ty)).grownBy w8 (Value.slice da dm dc).ownBlock → (∀ k, v8.ownBlock = some k → (Value.slice da dm dc).ownBlock = some k ∨ k = (w5.alloc (.cells c.toArray A.ty)).heap.size) →
    ∃ ya yc, v8 = .slice ya (dm + 1) yc ∧ BoxF w8 M bs ∧ BoxF (w8.setCell ⟨M, j, none⟩ v8) M (bs.set j v8) ∧ ownL (fun b => S b ∨ (V.heap.size ≤ b ∧ b < w8.heap.size)) (w8.setCell ⟨M, j, none⟩ v8) v8 (xs ++ [x]) ∧ ChgS (fun b => b = M ∨ S b) V (w8.setCell ⟨M, j, none⟩ v8) ∧ ChgS S V w8 ∧ (w8.setCell ⟨M, j, none⟩ v8).heap.size = w8.heap.size ∧ V.heap.size + 1 ≤ w8.heap.size := by
  have hlen : dm = xs.length := by
    obtain ⟨a, cap, e, _, _⟩ := ownL_len OD
    have h9 := congrArg (fun v => match v with | Value.slice _ n _ => n | _ => 0) e
    simpa using h9
  refine ⟨hlen, ?_⟩
  have hs5 := b5.size
  obtain ⟨L5, hL5⟩ : ∃ X, w5.alloc (.cells c.toArray A.ty) = X := ⟨_, rfl⟩
  have b5L : Below w5.heap.size w5 L5 := by rw [← hL5]; exact (Below.refl _ _).alloc (Nat.le_refl _) _
  have hsL : L5.heap.size = w5.heap.size + 1 := by rw [← hL5]; simp
  have bVL : Below V.heap.size V L5 := b5.trans (b5L.mono hs5)
  obtain ⟨css, hown, hblk, hsn⟩ := ownL_snoc (OD.keep fun b hb => bVL.block b (hS b hb).1)
  have hcl : c.length = A.sz := A.rds_len (A.own_rds o5)
  rw [hL5]
  rw [← hlen] at hown hsn
  refine ⟨css, hown, ?_, fun v8 w8 o8 g8 p8 => ?_⟩
  · rw [← hL5]
    have := Flat.of_owns (owns_litN w5 A.ty A.sz 1 c.toArray 0 (Nat.zero_le _) (by simpa using hcl) (by decide))
    simpa using this
  obtain ⟨ya, yc, rfl, _, _⟩ := owns_form o8
  have hs8 := g8.size
  have cV8 : ChgS S V w8 := (ChgS.of_below bVL S).trans (ChgS.of_grown g8 fun b e => hblk b e)
  have BM8 : BoxF w8 M bs := hM.chg cV8 fun h => (hS M h).2 rfl
  have OT8 : A.own T5 w8 c x := A.own_keep o5 fun b hb => by
    have h1 := hT b hb
    rw [g8.block b (by omega) (fun e => by have := (hS b (hblk b e.symm)).1; omega), b5L.block b h1.2]
  have P8 : ∀ b, Blk (Value.slice ya (dm + 1) yc) b → S b ∨ b = w5.heap.size + 1 := fun b hb => (p8 b hb).imp (hblk b) (fun e => by omega)
  have O8 := hsn w8 (Value.slice ya (dm + 1) yc) c x T5 o8 (fun b hb => (p8 b hb).imp id fun e h => by have := (hS b h).1; omega) (fun b hb hn => g8.block b (by have := (hS b hb).1; omega) (fun e => hn e.symm)) OT8
    (fun b hb => ⟨fun h => by have := (hS b h).1; have := (hT b hb).1; omega, fun h => (P8 b h).elim (fun h9 => by have := (hS b h9).1; have := (hT b hb).1; omega) (fun h9 => by have := (hT b hb).2; omega)⟩)
  have hMV := hM.1.1
  have Lo : ∀ b, (S b ∨ T5 b ∨ Blk (Value.slice ya (dm + 1) yc) b) → b ≠ M ∧ (S b ∨ (V.heap.size ≤ b ∧ b < w8.heap.size)) := fun b hb => by
    rcases hb with h | h | h
    · exact ⟨(hS b h).2, .inl h⟩
    · have h1 := hT b h
      exact ⟨by omega, .inr ⟨h1.1, by omega⟩⟩
    · have hlt := (owns_in o8 b h).2
      rcases P8 b h with h9 | h9
      · exact ⟨(hS b h9).2, .inl h9⟩
      · exact ⟨by omega, .inr ⟨by omega, hlt⟩⟩
  refine ⟨ya, yc, rfl, BM8, BM8.set j hj _, (O8.keep fun b hb => heap_setCell_other _ _ b _ (Lo b hb).1).mono fun b hb => (Lo b hb).2, ?_, cV8, by simp [World.setCell], by omega⟩
  exact (cV8.mono fun b hb => .inr hb).set _ _ (.inl rfl)
end Go.Own
/- Chapter 12's model: a descriptor done on values. -/
namespace Go.Proofs.YtbbdchlabdilcaaGreat
set_option maxRecDepth 100000
open Go.RowKit Go.Proofs Go.Own
open Go Go.BigFrame
set_option linter.unusedVariables false
set_option linter.unusedSimpArgs false
set_option maxHeartbeats 8000000 in
theorem spec_l12Do0 (vs : List Int) (ow st : Int) (es : List Entry) (n : Nat) (hn : vs.length = n) (base g cap : Nat) (v2 : Value) (wA w : World) (hA : Below wA.heap.size wA w) (hg : wA.heap.size ≤ g) (r2 : rdsL wA v2 es)
    (hrow : w.ownsRow base 3 1 (.slice (some ⟨g, 0, none⟩) n cap) n (vs.flatMap encI)) (hob : ∀ i, (h : i < es.length) → 0 ≤ es[i].object_ ∧ es[i].object_ < (n : Int)) (hvl : n ≤ 8) :
    Calls Tryz.prog 185 #[.slice (some ⟨g, 0, none⟩) n cap, .agg #[.int .i64 ow, .int .i64 st, v2]] w fun e w' => e = .returned (.tuple #[]) ∧ w'.ownsRow base 3 1 (.slice (some ⟨g, 0, none⟩) n cap) n ((doL vs es).flatMap encI) ∧ ChgS (fun b => b = g) w w' := by
  subst hn
  obtain ⟨a2, cap2, rfl, hl2, hm2, hc2⟩ := rdsL_open r2
  have HC2 := hid hc2
  have hgl : g < w.heap.size := (World.ownsRow.lt hrow _ rfl).2
  have hAs := hA.size
  obtain ⟨W1, hW1⟩ : ∃ X, w.alloc (.cells #[.int .i64 ow, .int .i64 st, Value.slice a2 es.length cap2] 54) = X := ⟨_, rfl⟩
  have hB1 : Below w.heap.size w W1 := by rw [← hW1]; exact (Below.refl _ _).alloc (Nat.le_refl _) _
  have bd : Box W1 w.heap.size [.int .i64 ow, .int .i64 st, Value.slice a2 es.length cap2] := by rw [← hW1]; exact Box.alloc _ _ _
  have HO := hid (owns_below hrow hB1)
  have HW1 := hid hW1
  have hel : es.length ≤ 9223372036854775807 := by omega
  have HA1 := hid (hA.trans (hB1.mono hAs))
  have hN1 := bd.1
  have BD := hid bd
  have k2 : W1.cell? ⟨w.heap.size, 2, none⟩ = some (Value.slice a2 es.length cap2) := bd.2 2 (by simp)
  have HOB := hid hob
  clear hc2 r2 hrow hW1 bd hob
  go_enter Tryz.func185, Tryz.ntmps185
  go_wp2_with fail
  rw [HW1.out]
  go_wp2
  clear k2
  go_loopw [4] (fun i wr => ∃ k : Nat, k ≤ es.length ∧ i = .int .i64 k ∧ Hid (wr.ownsRow base 3 1 (.slice (some ⟨g, 0, none⟩) vs.length cap) vs.length ((doTo vs es k).flatMap encI)) ∧ Hid (ChgS (fun b => b = g) W1 wr)) (fun i _ => es.length - (intOf i).toNat)
  case atStart => exact ⟨0, by omega, rfl, HO, hid (ChgS.refl _ _)⟩
  case round =>
    clear HO
    obtain ⟨k, hk, rfl, HO, HC⟩ := hrel
    have q2 : wr.cell? ⟨w.heap.size, 2, none⟩ = some (Value.slice a2 es.length cap2) := (cell_chg HC.out hN1 (by omega)).trans (BD.out.2 2 (by simp))
    by_cases hlt : k < es.length
    · obtain ⟨bb, off, cs, rfl, hbs, hel2, hcell⟩ := HC2.out k hlt
      have hel2 : cs = Entry.enc es[k] := hel2
      subst hel2
      have hsucc := hid (doTo_succ (vs := vs) hlt)
      have hobk := HOB.out k hlt
      obtain ⟨E, hE⟩ : ∃ E, es[k] = E := ⟨_, rfl⟩
      have c0 : wA.cell? ⟨bb, off + k * 5, none⟩ = some (.int .i64 es[k].object_) := hcell 0 (show 0 < 5 by omega)
      have c3 : wA.cell? ⟨bb, off + k * 5 + 3, none⟩ = some (.int .i64 es[k].new_) := hcell 3 (show 3 < 5 by omega)
      have c4 : wA.cell? ⟨bb, off + k * 5 + 4, none⟩ = some (.bool es[k].write_) := hcell 4 (show 4 < 5 by omega)
      have hBr := below_chg HA1.out HC.out HA1.out.size (fun b hb => by omega)
      have e0 := (hBr.cell (p := ⟨bb, off + k * 5, none⟩) hbs).trans c0
      have e3 := (hBr.cell (p := ⟨bb, off + k * 5 + 3, none⟩) hbs).trans c3
      have e4 := (hBr.cell (p := ⟨bb, off + k * 5 + 4, none⟩) hbs).trans c4
      rw [hE] at e0 e3 e4 hsucc hobk
      clear c0 c3 c4 hcell HC2 hE hBr
      obtain ⟨eo, ev, el, en, ew⟩ := E
      dsimp only at e0 e3 e4 hobk
      cases ew with
      | false =>
        have Hn := hid (show doTo vs es (k+1) = doTo vs es k by rw [hsucc.out]; rfl)
        clear hsucc hobk
        go_wp2
        go_roundw
        case rel => exact ⟨k+1, by omega, by go_num, hid (by rw [Hn.out]; exact HO.out), HC⟩
        case measure => simp [intOf]; omega
      | true =>
        obtain ⟨o, rfl⟩ := Int.eq_ofNat_of_zero_le hobk.1
        have hol : o < vs.length := by omega
        have Hn := hid (show doTo vs es (k+1) = (doTo vs es k).set o en by rw [hsucc.out]; show (if true = true then _ else _) = _; rw [if_pos rfl, Int.toNat_natCast])
        have hdl : o < ((doTo vs es k).flatMap encI).length := by rw [flatMap_len encI 1 (fun _ => rfl), doTo_len]; omega
        have r0 : wr.cell? ⟨g, o, none⟩ = some ((doTo vs es k).flatMap encI)[o] := by rw [HO.out.cellAt o (by omega), List.getElem?_eq_getElem hdl]
        have r1 : wr.frozen? ⟨g, o, none⟩ = false := HO.out.frozenAt o
        have ho0 : (0 : Int) ≤ (o : Int) := by omega
        have hoi : (o : Int) < (vs.length : Int) := by omega
        obtain ⟨V2, hV2⟩ : ∃ X, wr.setCell ⟨g, o, none⟩ (.int .i64 en) = X := ⟨_, rfl⟩
        have HO2 := hid (show V2.ownsRow base 3 1 (.slice (some ⟨g, 0, none⟩) vs.length cap) vs.length ((doTo vs es (k+1)).flatMap encI) by
          have z := owns_put HO.out o (.int .i64 en)
          rw [encI_set, ← Hn.out, hV2] at z; exact z)
        have HC3 := hid (show ChgS (fun b => b = g) W1 V2 by rw [← hV2]; exact HC.out.set _ _ rfl)
        have HV2 := hid hV2
        generalize ((doTo vs es k).flatMap encI)[o] = old at *
        clear hsucc hobk Hn HO HC hV2 hdl
        go_wp2
        go_region
        all_goals go_wp2
        all_goals rw [HV2.out]
        all_goals go_roundw
        case rel => exact ⟨k+1, by omega, by go_num, hid (owns_below HO2.out (Below.refl _ _).drew), hid (HC3.out.trans (ChgS.of_below (Below.refl _ _).drew _))⟩
        case measure => simp [intOf]; omega
    · obtain rfl : k = es.length := by omega
      have HF := hid (show ChgS (fun b => b = g) w wr from (ChgS.of_below hB1 _).trans HC.out)
      go_wp2
      refine bodyPost_end (results_none rfl _ _ _) rfl ⟨rfl, HO.out, HF.out⟩
end Go.Proofs.YtbbdchlabdilcaaGreat
/- Chapter 7: what Drive answers. -/
/- Chapter 7: what Announce answers. -/
namespace Go.Proofs.YtbbdchlabdilcaaGreat
set_option maxRecDepth 100000
open Go.RowKit Go.Proofs Go.Own
def annOk (hs : List Head) (ds : List DescD) (d : DescD) : Bool := storeOk hs ds && descOk d.owner_ d.status_ d.entries_ && decide (d.status_ = 0) && !decide ((hs.length : Int) ≤ lastO d.entries_) && !decide (ds.length = 60)
def annL (hs : List Head) (ds : List DescD) (d : DescD) : List DescD := if annOk hs ds d = true then ds ++ [d] else ds
def annN (hs : List Head) (ds : List DescD) (d : DescD) : Int := if annOk hs ds d = true then (ds.length : Int) else -1
theorem annL_no {hs : List Head} {ds : List DescD} {d : DescD} (h : annOk hs ds d = false) : annL hs ds d = ds := by unfold annL; rw [h]; rfl
theorem annN_no {hs : List Head} {ds : List DescD} {d : DescD} (h : annOk hs ds d = false) : annN hs ds d = -1 := by unfold annN; rw [h]; rfl
theorem annL_yes {hs : List Head} {ds : List DescD} {d : DescD} (h : annOk hs ds d = true) : annL hs ds d = ds ++ [d] := by unfold annL; rw [h]; rfl
theorem annN_yes {hs : List Head} {ds : List DescD} {d : DescD} (h : annOk hs ds d = true) : annN hs ds d = (ds.length : Int) := by unfold annN; rw [h]; rfl
theorem ann1 {hs : List Head} {ds : List DescD} {d : DescD} (h : storeOk hs ds = false) : annOk hs ds d = false := by unfold annOk; rw [h]; rfl
theorem ann2 {hs : List Head} {ds : List DescD} {d : DescD} (h : descOk d.owner_ d.status_ d.entries_ = false) : annOk hs ds d = false := by unfold annOk; rw [h]; simp
theorem ann3 {hs : List Head} {ds : List DescD} {d : DescD} (h : ¬ d.status_ = 0) : annOk hs ds d = false := by unfold annOk; rw [decide_eq_false h]; simp
theorem ann4 {hs : List Head} {ds : List DescD} {d : DescD} (h : (hs.length : Int) ≤ lastO d.entries_) : annOk hs ds d = false := by unfold annOk; rw [decide_eq_true h]; simp
theorem ann5 {hs : List Head} {ds : List DescD} {d : DescD} (h : ds.length = 60) : annOk hs ds d = false := by unfold annOk; rw [decide_eq_true h]; simp
theorem ann6 {hs : List Head} {ds : List DescD} {d : DescD} (h1 : storeOk hs ds = true) (h2 : descOk d.owner_ d.status_ d.entries_ = true) (h3 : d.status_ = 0) (h4 : ¬ (hs.length : Int) ≤ lastO d.entries_) (h5 : ¬ ds.length = 60) : annOk hs ds d = true := by
  unfold annOk; rw [h1, h2, decide_eq_true h3, decide_eq_false h4, decide_eq_false h5]; rfl
/-- A store that a call has made: its lists of the call's own, apart, in blocks of its own. -/
def StoreOwn (w w' : World) (u0 u1 : Value) (hs : List Head) (ds : List DescD) : Prop := ∃ S0 S1 : Nat → Prop, ownL S0 w' u0 hs ∧ ownL S1 w' u1 ds ∧ (∀ k, S0 k → Rg w.heap.size w'.heap.size k) ∧ (∀ k, S1 k → Rg w.heap.size w'.heap.size k) ∧ ∀ k, S0 k → ¬ S1 k
end Go.Proofs.YtbbdchlabdilcaaGreat
namespace Go.Proofs.YtbbdchlabdilcaaGreat
set_option maxRecDepth 100000
open Go.RowKit Go.Proofs Go.Own
def dAt (ds : List DescD) (k : Int) : DescD := match ds[k.toNat]? with | some d => d | none => ⟨0, 0, []⟩
theorem dAt_eq {ds : List DescD} {k : Nat} (h : k < ds.length) : dAt ds k = ds[k] := by unfold dAt; rw [Int.toNat_natCast, List.getElem?_eq_getElem h]
def eAt (es : List Entry) (a : Int) : Entry := match es[a.toNat]? with | some e => e | none => ⟨0, 0, 0, 0, false⟩
theorem eAt_eq {es : List Entry} {k : Nat} (h : k < es.length) : eAt es k = es[k] := by unfold eAt; rw [Int.toNat_natCast, List.getElem?_eq_getElem h]
def hAt (hs : List Head) (o : Int) : Head := match hs[o.toNat]? with | some h => h | none => ⟨0, 0, 0⟩
theorem hAt_eq {hs : List Head} {k : Nat} (h : k < hs.length) : hAt hs k = hs[k] := by unfold hAt; rw [Int.toNat_natCast, List.getElem?_eq_getElem h]
/-- The head whose descriptor is taken off. -/
def freeH (st : Int) (e : Entry) (h : Head) : Head := if st = 1 ∧ e.write_ = true then ⟨e.new_, (h.version_ + 1) % 1000001, -1⟩ else ⟨h.value_, h.version_, -1⟩
def layH (k : Int) (h : Head) : Head := ⟨h.value_, h.version_, k⟩
def decD (st : Int) (d : DescD) : DescD := if d.status_ = 0 then ⟨d.owner_, st, d.entries_⟩ else d
/-- The entry at hand, its object, the head. -/
def curE (ds : List DescD) (f : Frame) : Entry := eAt (entsAt ds f.desc_) f.at_
def curO (ds : List DescD) (f : Frame) : Int := (curE ds f).object_
def curH (hs : List Head) (ds : List DescD) (f : Frame) : Head := hAt hs (curO ds f)
/-- One step: the heads, the descriptors, the frame, who must be driven first. -/
def stepH (hs : List Head) (ds : List DescD) (f : Frame) : List Head :=
  if f.phase_ = 1 then (if ¬ (curH hs ds f).desc_ = f.desc_ ∧ ¬ 0 ≤ (curH hs ds f).desc_ ∧ (curH hs ds f).version_ = (curE ds f).version_ then hs.set (curO ds f).toNat (layH f.desc_ (curH hs ds f)) else hs)
  else if f.phase_ = 4 then (if (curH hs ds f).desc_ = f.desc_ then hs.set (curO ds f).toNat (freeH (dAt ds f.desc_).status_ (curE ds f) (curH hs ds f)) else hs)
  else hs
def stepD (ds : List DescD) (f : Frame) : List DescD :=
  if f.phase_ = 2 then ds.set f.desc_.toNat (decD 1 (dAt ds f.desc_)) else if f.phase_ = 3 then ds.set f.desc_.toNat (decD 2 (dAt ds f.desc_)) else ds
def stepF (hs : List Head) (ds : List DescD) (f : Frame) : Frame :=
  if f.phase_ = 0 then (if (dAt ds f.desc_).status_ = 0 then ⟨f.desc_, 1, 0⟩ else ⟨f.desc_, 4, 0⟩)
  else if f.phase_ = 1 then (if (curH hs ds f).desc_ = f.desc_ then nextF ds f 2 else if 0 ≤ (curH hs ds f).desc_ then ⟨f.desc_, 0, 0⟩ else if (curH hs ds f).version_ = (curE ds f).version_ then nextF ds f 2 else ⟨f.desc_, 3, 0⟩)
  else if f.phase_ = 2 ∨ f.phase_ = 3 then ⟨f.desc_, 4, 0⟩
  else if f.phase_ = 4 then nextF ds f 5
  else f
def stepN (hs : List Head) (ds : List DescD) (f : Frame) : Int :=
  if f.phase_ = 1 ∧ ¬ (curH hs ds f).desc_ = f.desc_ ∧ 0 ≤ (curH hs ds f).desc_ then (curH hs ds f).desc_ else -1
/-- What a frame that is so says. -/
theorem frameOk_parts {hs : List Head} {ds : List DescD} {f : Frame} (h : frameOk hs ds f = true) : storeOk hs ds = true ∧ ∃ k : Nat, f.desc_ = k ∧ k < ds.length ∧ (0 ≤ f.phase_ ∧ f.phase_ ≤ 5) ∧ ∃ a : Nat, f.at_ = a ∧ a < (entsAt ds k).length ∧ (¬ (f.phase_ = 1 ∨ f.phase_ = 4) → f.at_ = 0) := by
  unfold frameOk at h
  simp only [Bool.and_eq_true] at h
  obtain ⟨⟨⟨h1, h2⟩, h3⟩, h4⟩ := h
  have h2' : 0 ≤ f.desc_ ∧ f.desc_ ≤ (ds.length : Int) - 1 := by simpa [inB] using h2
  have h3' : 0 ≤ f.phase_ ∧ f.phase_ ≤ 5 := by simpa [inB] using h3
  obtain ⟨k, hk⟩ := Int.eq_ofNat_of_zero_le h2'.1
  have hkl : k < ds.length := by omega
  refine ⟨h1, k, hk, hkl, h3', ?_⟩
  have hl : 0 < (entsAt ds k).length := by
    rw [entsAt_eq hkl]
    have h9 := (storeOk_all h1).2.2.1 k hkl
    rw [descIn_is] at h9
    simp only [Bool.and_eq_true] at h9
    exact (descOk_len h9.1).1
  split at h4
  · rename_i hp
    have h5 : 0 ≤ f.at_ ∧ f.at_ ≤ ((entsAt ds f.desc_).length : Int) - 1 := by simpa [inB] using h4
    obtain ⟨a, ha⟩ := Int.eq_ofNat_of_zero_le h5.1
    refine ⟨a, ha, ?_, fun hn => absurd hp hn⟩
    rw [hk] at h5
    omega
  · have h5 : f.at_ = 0 := by simpa using h4
    exact ⟨0, by rw [h5]; rfl, hl, fun _ => h5⟩
/-- The entry at hand is of an object that there is. -/
theorem cur_obj {hs : List Head} {ds : List DescD} (h : storeOk hs ds = true) {k a : Nat} (hk : k < ds.length) (ha : a < ds[k].entries_.length) : ∃ o : Nat, ds[k].entries_[a].object_ = o ∧ o < hs.length := by
  have h9 := (storeOk_all h).2.2.1 k hk
  rw [descIn_is] at h9
  simp only [Bool.and_eq_true, List.all_eq_true] at h9
  have h8 := h9.2 _ (List.getElem_mem ha)
  unfold objIn at h8
  simp only [Bool.and_eq_true, decide_eq_true_eq] at h8
  obtain ⟨o, ho⟩ := Int.eq_ofNat_of_zero_le h8.1
  exact ⟨o, ho, by omega⟩
theorem head_in {hs : List Head} {ds : List DescD} (h : storeOk hs ds = true) {o : Nat} (ho : o < hs.length) : (0 ≤ hs[o].version_ ∧ hs[o].version_ ≤ 1000000) ∧ -1 ≤ hs[o].desc_ ∧ hs[o].desc_ < (ds.length : Int) := by
  have h9 := (storeOk_all h).2.2.2 o ho
  unfold headIn at h9
  simp only [Bool.and_eq_true] at h9
  have h1 : 0 ≤ hs[o].version_ ∧ hs[o].version_ ≤ 1000000 := by simpa [inB] using h9.1.1.2
  have h2 : -1 ≤ hs[o].desc_ ∧ hs[o].desc_ ≤ (ds.length : Int) - 1 := by simpa [inB] using h9.1.2
  exact ⟨h1, h2.1, by omega⟩
/-- What Drive answers. -/
structure DriveR where
  hs : List Head
  ds : List DescD
  f : Frame
  n : Int
def driveR (hs : List Head) (ds : List DescD) (f : Frame) : DriveR := if frameOk hs ds f = true then ⟨stepH hs ds f, stepD ds f, stepF hs ds f, stepN hs ds f⟩ else ⟨hs, ds, f, -1⟩
theorem driveR_yes {hs : List Head} {ds : List DescD} {f : Frame} (h : frameOk hs ds f = true) : driveR hs ds f = ⟨stepH hs ds f, stepD ds f, stepF hs ds f, stepN hs ds f⟩ := if_pos h
theorem driveR_no {hs : List Head} {ds : List DescD} {f : Frame} (h : frameOk hs ds f = false) : driveR hs ds f = ⟨hs, ds, f, -1⟩ := if_neg (by rw [h]; simp)
theorem stepH_len (hs : List Head) (ds : List DescD) (f : Frame) : (stepH hs ds f).length = hs.length := by
  unfold stepH
  split
  · split
    · rw [List.length_set]
    · rfl
  · split
    · split
      · rw [List.length_set]
      · rfl
    · rfl
theorem stepD_len (ds : List DescD) (f : Frame) : (stepD ds f).length = ds.length := by
  unfold stepD
  split
  · rw [List.length_set]
  · split
    · rw [List.length_set]
    · rfl
end Go.Proofs.YtbbdchlabdilcaaGreat
