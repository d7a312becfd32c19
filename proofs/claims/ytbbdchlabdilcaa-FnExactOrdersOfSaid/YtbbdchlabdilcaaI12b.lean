/- Chapter 12's program: descriptors done one after the other, and the values put back by a deferred function. -/
import Derived.Test.YtbbdchlabdilcaaI12
import Derived.Test.YtbbdchlabdilcaaMid
import Derived.Test.YtbbdchlabdilcaaS12f
import Derived.Defers
import Derived.Laws.Pointers
import Derived.Laws.IdiomCopy
namespace Go.Own
open Go.RowKit
theorem owns_setCells {base e T g c : Nat} : ∀ (vs pre old : List Value) (w : World), w.ownsRow base e 1 (.slice (some ⟨g, 0, none⟩) T c) T (pre ++ old) → old.length = vs.length → (w.setCells g pre.length vs).ownsRow base e 1 (.slice (some ⟨g, 0, none⟩) T c) T (pre ++ vs)
  | [], pre, old, w, h, hl => by
    obtain rfl : old = [] := List.eq_nil_of_length_eq_zero hl
    exact h
  | v :: r, pre, [], w, h, hl => by cases hl
  | v :: r, pre, x :: old, w, h, hl => by
    have z := owns_put h pre.length v
    rw [show (pre ++ x :: old).set pre.length v = (pre ++ [v]) ++ old by simp] at z
    have z2 := owns_setCells r (pre ++ [v]) old _ z (by simpa using hl)
    rw [show (pre ++ [v]).length = pre.length + 1 by simp] at z2
    rw [World.setCells]
    simpa using z2
theorem wpList_copy_row {P : Program} {w : World} {ops : Array Oper} {rest : List Oper} {o : Oper} {a : Act} {Q : Exit → Act → World → Prop} (hgd : o.guard = none) (d s : Operand) (dT sT : TypeId)
    (ho : o.op = .call { callee := .builtin .copy, args := #[d, s], argTypes := #[dT, sT] }) (elem : TypeId) (hu : P.underlying dT = some (.slice elem)) (hsz : (P.info? elem).map (·.size) = some 1)
    (g n c : Nat) (hd : a.eval d = .slice (some ⟨g, 0, none⟩) n c) (ad : Addr) (c2 : Nat) (hs : a.eval s = .slice (some ad) n c2) (base : Nat) (z cs : List Value) (hown : w.ownsRow base elem 1 (.slice (some ⟨g, 0, none⟩) n c) n z)
    (hl : cs.length = n) (hsrc : ∀ j v, cs[j]? = some v → w.cell? (ad.add j) = some v) (h1 : ∀ v ∈ cs, v.oneCell' = true)
    (h : ∀ w', w'.ownsRow base elem 1 (.slice (some ⟨g, 0, none⟩) n c) n cs → ChgS (fun b => b = g) w w' → wpList P ops Q rest (a.put o.dst (goInt cs.length)) w') : wpList P ops Q (o :: rest) a w := by
  have hzl : z.length = n := by have := hown.1; omega
  refine wpList_plain hgd fun K hK => ?_
  have hrun := run_copy_cells (P := P) w dT sT o.type elem g 0 n c ad n c2 cs hu hsz (by rw [hl]; exact (Nat.min_self n).symm) hsrc (fun j hj => by rw [Nat.zero_add, hown.cellAt j (by omega), List.getElem?_eq_getElem (by omega)]; rfl) (fun j hj => by rw [Nat.zero_add]; exact hown.frozenAt j) h1
  have hrow := owns_setCells cs [] z w hown (by omega)
  unfold Oper.wp
  simp [execOp, ho, resolve, invoke, builtin, hd, hs, hrun, Result.andThen]
  exact hK _ _ (h _ hrow (chg_setCells (S := fun b => b = g) g rfl cs 0 w (ChgS.refl _ w)))
end Go.Own
namespace Go.Proofs.Ytbbdchlabdilcaa
set_option maxRecDepth 100000
open Go.RowKit Go.Proofs Go.Own
open Go Go.BigFrame
set_option linter.unusedVariables false
set_option linter.unusedSimpArgs false
theorem impl_back (ps pw g n c gw c2 base bw : Nat) (xs vs : List Int) (hx : xs.length = n) (hv : vs.length = n) (w : World)
    (h0 : w.cell? ⟨ps, 0, none⟩ = some (.slice (some ⟨g, 0, none⟩) n c)) (h1 : w.cell? ⟨pw, 0, none⟩ = some (.slice (some ⟨gw, 0, none⟩) n c2))
    (hrow : w.ownsRow base 3 1 (.slice (some ⟨g, 0, none⟩) n c) n (xs.flatMap encI)) (hw : w.ownsRow bw 3 1 (.slice (some ⟨gw, 0, none⟩) n c2) n (vs.flatMap encI)) :
    CallsD Try.prog 38 #[.pointer (some ⟨ps, 0, none⟩), .pointer (some ⟨pw, 0, none⟩)] .returning w fun e u' w' => u' = .returning ∧ e = .returned (.tuple #[]) ∧ w'.ownsRow base 3 1 (.slice (some ⟨g, 0, none⟩) n c) n (vs.flatMap encI) ∧ ChgS (fun b => b = g) w w' := by
  obtain ⟨i0, hi, hz0, hz1, hz2⟩ := info_parts infoInt
  have hone := hid (oneCell_enc oneCell_I vs)
  have hl : (vs.flatMap encI).length = n := by rw [flatMap_len encI 1 (fun _ => rfl)]; omega
  have Hsrc := hid (fun j v (hj : (vs.flatMap encI)[j]? = some v) => show w.cell? ((⟨gw, 0, none⟩ : Addr).add j) = some v by
    have hjl : j < n := by
      rcases Nat.lt_or_ge j n with h | h
      · exact h
      · rw [List.getElem?_eq_none (by omega)] at hj; cases hj
    have z := hw.cellAt j (by omega)
    rw [hj] at z
    simpa [Addr.add_lit] using z)
  have HROW := hid hrow
  have HL := hid hl
  clear hrow hw hl hx hv
  go_enter_d Try.func38, Try.ntmps38
  go_wp2_with (refine wpList_copy_row (o := ⟨some 4, _, _, _, _, _⟩) rfl _ _ 49 49 rfl 3 Try.underlying49 (by rw [hi]; simp [hz1]) g n c rfl ⟨gw, 0, none⟩ c2 rfl base _ (vs.flatMap encI) HROW.out HL.out Hsrc.out hone.out ?_)
  intro w' r' C'
  have R := hid r'
  have C := hid C'
  clear r' C'
  go_wp2
  go_end0
  first | exact ⟨rfl, R.out, C.out⟩ | exact ⟨rfl, rfl, R.out, C.out⟩
/-- A list of descriptors that can be read whatever becomes of block g, its entries in an elder world. -/
def DescsAt (g : Nat) (wA w : World) (a : Option Addr) (ds : List DescD) : Prop := ∀ wr, ChgS (fun b => b = g) w wr → ∀ k, (h : k < ds.length) → ∃ b off u, a = some ⟨b, off, none⟩ ∧ wr.cell? ⟨b, off + k * 3, none⟩ = some (.int .i64 ds[k].owner_) ∧ wr.cell? ⟨b, off + k * 3 + 1, none⟩ = some (.int .i64 ds[k].status_) ∧ wr.cell? ⟨b, off + k * 3 + 2, none⟩ = some u ∧ rdsL wA u ds[k].entries_
theorem descsAt_below {g : Nat} {wA w w' : World} {a : Option Addr} {ds : List DescD} (h : DescsAt g wA w a ds) (hb : Below w.heap.size w w') : DescsAt g wA w' a ds := fun wr C k hk => h wr ((ChgS.of_below hb _).trans C) k hk
theorem descsAt_of {g : Nat} {wA w : World} {a : Option Addr} {n cap : Nat} {ds : List DescD} (h : rdsL wA (.slice a n cap) ds) (hA : Below wA.heap.size wA w) (hg : wA.heap.size ≤ g) : DescsAt g wA w a ds := by
  intro wr C k hk
  obtain ⟨a1, cap1, e, hl1, hm1, hc1⟩ := rdsL_open h
  obtain rfl : a = a1 := by injection e
  obtain ⟨bb, off, cs, rfl, hbs, ⟨v2, rfl, h2⟩, hcell⟩ := hc1 k hk
  have hBr := below_chg hA C hA.size (fun b hb => by omega)
  have c0 : wA.cell? ⟨bb, off + k * 3, none⟩ = some (.int .i64 ds[k].owner_) := hcell 0 (show 0 < 3 by omega)
  have c1 : wA.cell? ⟨bb, off + k * 3 + 1, none⟩ = some (.int .i64 ds[k].status_) := hcell 1 (show 1 < 3 by omega)
  have c2 : wA.cell? ⟨bb, off + k * 3 + 2, none⟩ = some v2 := hcell 2 (show 2 < 3 by omega)
  exact ⟨bb, off, v2, rfl, (hBr.cell (p := ⟨bb, off + k * 3, none⟩) hbs).trans c0, (hBr.cell (p := ⟨bb, off + k * 3 + 1, none⟩) hbs).trans c1, (hBr.cell (p := ⟨bb, off + k * 3 + 2, none⟩) hbs).trans c2, h2⟩
set_option maxHeartbeats 8000000 in
theorem impl_behind0 (vs : List Int) (ds : List DescD) (n : Nat) (hn : vs.length = n) (base g cap : Nat) (a1 : Option Addr) (cap1 : Nat) (wA w : World) (hA : Below wA.heap.size wA w) (hg : wA.heap.size ≤ g) (hd : DescsAt g wA w a1 ds) (hdl : ds.length ≤ 1048576)
    (hrow : w.ownsRow base 3 1 (.slice (some ⟨g, 0, none⟩) n cap) n (vs.flatMap encI)) (hob : ∀ k, (hk : k < ds.length) → ∀ i, (h : i < ds[k].entries_.length) → 0 ≤ ds[k].entries_[i].object_ ∧ ds[k].entries_[i].object_ < (n : Int)) (hn1 : 1 ≤ n) (hvl : n ≤ 8) :
    Calls Try.prog 25 #[.slice (some ⟨g, 0, none⟩) n cap, .slice a1 ds.length cap1] w fun e w' => ∃ u, e = .returned (.tuple #[u, .bool (serTo vs ds ds.length 0).2]) ∧ w'.ownsRow w.heap.size 3 1 u n ((serTo vs ds ds.length 0).1.flatMap encI) ∧ w'.ownsRow base 3 1 (.slice (some ⟨g, 0, none⟩) n cap) n (vs.flatMap encI) ∧ ChgS (fun b => b = g) w w' := by
  have hmf : ∀ (fn : Fn) (first cap : Array Value) (w : World), (Instr.makeFunc fn first cap).run Try.prog w = .ok (.func fn first cap) w := fun _ _ _ _ => rfl
  have hgl : g < w.heap.size := (World.ownsRow.lt hrow _ rfl).2
  obtain ⟨W1, hW1⟩ : ∃ X, w.alloc (.cells #[.slice (some ⟨g, 0, none⟩) n cap] 49) = X := ⟨_, rfl⟩
  have hB1 : Below w.heap.size w W1 := by rw [← hW1]; exact (Below.refl _ _).alloc (Nat.le_refl _) _
  have bs1 : Box W1 w.heap.size [.slice (some ⟨g, 0, none⟩) n cap] := by rw [← hW1]; exact Box.alloc _ _ _
  have k0 : W1.cell? ⟨w.heap.size, 0, none⟩ = some (.slice (some ⟨g, 0, none⟩) n cap) := bs1.2 0 (by simp)
  have BS1 := hid bs1
  have HO1 := hid (owns_below hrow hB1)
  have HI1 := hid (show Ints W1 (.slice (some ⟨g, 0, none⟩) n cap) vs by
    show Flat W1 _ vs.length 1 _
    rw [hn]; exact Flat.of_owns (owns_below hrow hB1))
  have HN := hid hn
  have HOB := hid hob
  have HW1 := hid hW1
  have HD1 := hid (descsAt_below hd hB1)
  clear hrow hW1 bs1 hn hob hd
  go_enter_defers Try.func25, Try.ntmps25
  go_wp2_with fail
  rw [HW1.out]
  refine (impl_stateOf vs _ _ HI1.out (by have := HN.out; omega)).mono ?_
  rintro e w2 ⟨u2, rfl, o2, b2⟩
  rw [HN.out] at o2
  obtain ⟨gw, gc, rfl, hgc1, hgc2, hgw1, hgw2, -, -⟩ := owns_at o2 (by omega)
  obtain ⟨W3, hW3⟩ : ∃ X, w2.alloc (.cells #[.slice (some ⟨gw, 0, none⟩) n gc] 49) = X := ⟨_, rfl⟩
  have hB3 : Below w2.heap.size w2 W3 := by rw [← hW3]; exact (Below.refl _ _).alloc (Nat.le_refl _) _
  have bw3 : Box W3 w2.heap.size [.slice (some ⟨gw, 0, none⟩) n gc] := by rw [← hW3]; exact Box.alloc _ _ _
  have b13 := b2.trans (hB3.mono b2.size)
  have HB3 := hid (hB1.trans (b13.mono hB1.size))
  have HO3 := hid (owns_below HO1.out b13)
  have HW3 := hid (owns_below o2 hB3)
  have BS3 := hid (BS1.out.below b13)
  have BW3 := hid bw3
  have HD3 := hid (descsAt_below HD1.out b13)
  have hs1 := BS1.out.1
  have hs2 := b2.size
  have hs3 := hB3.size
  have HX3 := hid hW3
  clear k0 o2 hB3 bw3 b13 HO1 HI1 BS1 HD1 b2 hB1 HW1
  go_wp2_with fail
  try rw [HX3.out]
  have HAW := hid (hA.trans (HB3.out.mono hA.size))
  have hAs := hA.size
  go_loopw [14] (fun i wr => ∃ (k m : Nat) (X : List Int), k + m = ds.length ∧ i = .int .i64 k ∧ Hid (X.length = n) ∧ Hid (wr.ownsRow base 3 1 (.slice (some ⟨g, 0, none⟩) n cap) n (X.flatMap encI)) ∧ Hid (ChgS (fun b => b = g) W3 wr) ∧ Same (serTo X ds m k) (serTo vs ds ds.length 0)) (fun i _ => ds.length - (intOf i).toNat)
  case atStart => exact ⟨0, ds.length, vs, by omega, rfl, HN, HO3, hid (ChgS.refl _ _), .rfl⟩
  case round =>
    clear HO3
    obtain ⟨k, m, X, hkm, rfl, HX, HO, HC, hS⟩ := hrel
    have q0 : wr.cell? ⟨w.heap.size, 0, none⟩ = some (.slice (some ⟨g, 0, none⟩) n cap) := (cell_chg HC.out BS3.out.1 (show ¬ w.heap.size = g by omega)).trans (BS3.out.2 0 (by simp))
    have hsr := HC.out.size
    by_cases hlt : k < ds.length
    · obtain ⟨m, rfl⟩ : ∃ q, m = q + 1 := ⟨m - 1, by omega⟩
      obtain ⟨b, off, u, rfl, c0, c1, c2, hr⟩ := HD3.out wr HC.out k hlt
      obtain ⟨ub, uc, rfl, -, -, -⟩ := rdsL_open hr
      have HR := hid hr
      have HOBk := hid (HOB.out k hlt)
      have Hyes := hid (fun hc => serTo_yes (vs := X) (n := m) hlt hc)
      have Hno := hid (fun hc => serTo_no (vs := X) (n := m) hlt hc)
      clear hr
      generalize ds[k].entries_ = es at *
      generalize ds[k].owner_ = ow at *
      generalize ds[k].status_ = st at *
      obtain ⟨V, hV⟩ : ∃ Y, wr.alloc (.cells #[.int .i64 ow, .int .i64 st, .slice ub es.length uc] 45) = Y := ⟨_, rfl⟩
      have hBV : Below wr.heap.size wr V := by rw [← hV]; exact (Below.refl _ _).alloc (Nat.le_refl _) _
      have bv : Box V wr.heap.size [.int .i64 ow, .int .i64 st, .slice ub es.length uc] := by rw [← hV]; exact Box.alloc _ _ _
      have y0 : V.cell? ⟨wr.heap.size, 0, none⟩ = some (.int .i64 ow) := bv.2 0 (by simp)
      have y1 : V.cell? ⟨wr.heap.size, 1, none⟩ = some (.int .i64 st) := bv.2 1 (by simp)
      have y2 : V.cell? ⟨wr.heap.size, 2, none⟩ = some (.slice ub es.length uc) := bv.2 2 (by simp)
      have q0V := (hBV.cell (p := ⟨w.heap.size, 0, none⟩) (show w.heap.size < wr.heap.size by omega)).trans q0
      have HCV := hid (HC.out.trans (ChgS.of_below hBV (fun b => b = g)))
      have HOV := hid (owns_below HO.out hBV)
      have HAV := hid (below_chg HAW.out HCV.out (by have := HAW.out.size; omega) (fun b hb => by omega))
      obtain ⟨B, hB9⟩ : ∃ B, Hid (canL X es = B) := ⟨_, hid rfl⟩
      have Hcall := hid (impl_commit0 X ow st es n HX.out base g cap _ wA V HAV.out hg HR.out HOV.out (fun i hi => HOBk.out i hi) hvl)
      have Hcl := hid (show comL X es = if B = true then doL X es else X by rw [← hB9.out]; rfl)
      rw [hB9.out] at Hcall Hyes Hno
      have HBVs := hid hBV.size
      clear HC HO bv hBV
      go_wp2_with fail
      refine Hcall.out.mono ?_
      rintro e w5 ⟨rfl, o5, C5⟩
      have HC5 := hid (HCV.out.trans C5)
      have hs5 := HC5.out.size
      have q05 : w5.cell? ⟨w.heap.size, 0, none⟩ = some (.slice (some ⟨g, 0, none⟩) n cap) := (cell_chg HC5.out BS3.out.1 (show ¬ w.heap.size = g by omega)).trans (BS3.out.2 0 (by simp))
      clear y0 y1 y2 q0 q0V c0 c1 c2 Hcall C5
      cases B with
      | false =>
        have Hc := hid (show comL X es = X by rw [Hcl.out]; rfl)
        have HO5 := hid (show w5.ownsRow base 3 1 (.slice (some ⟨g, 0, none⟩) n cap) n (X.flatMap encI) by rw [← Hc.out]; exact o5)
        have Hse := hid (show serTo vs ds ds.length 0 = (X, false) by rw [← hS.out]; exact Hno.out (by first | exact rfl | trivial))
        clear o5 Hyes Hno hS Hcl
        have HI5 := hid (show Ints w5 (.slice (some ⟨g, 0, none⟩) n cap) X by show Flat w5 _ X.length 1 _; rw [HX.out]; exact Flat.of_owns HO5.out)
        go_wp2_with fail
        refine (impl_stateOf X _ _ HI5.out (by have := HX.out; omega)).mono ?_
        rintro e w6 ⟨u6, rfl, o6, b6⟩
        rw [HX.out] at o6
        have HO6 := hid (owns_below HO5.out b6)
        have HC6 := hid (HC5.out.trans (ChgS.of_below b6 (fun b => b = g)))
        have HU6 := hid o6
        obtain ⟨ua6, uc6, rfl, -, -⟩ := owns_form o6
        have j0 : w6.cell? ⟨w.heap.size, 0, none⟩ = some (.slice (some ⟨g, 0, none⟩) n cap) := (cell_chg HC6.out BS3.out.1 (show ¬ w.heap.size = g by omega)).trans (BS3.out.2 0 (by simp))
        have j1 : w6.cell? ⟨w2.heap.size, 0, none⟩ = some (.slice (some ⟨gw, 0, none⟩) n gc) := (cell_chg HC6.out BW3.out.1 (show ¬ w2.heap.size = g by omega)).trans (BW3.out.2 0 (by simp))
        have HW6 := hid (owns_same HW3.out fun b hb => HC6.out.block b (World.ownsRow.lt HW3.out b hb).2 (by have e : gw = b := Option.some.inj hb; omega))
        clear o6 b6 q05 HO5 HC5
        go_wp2
        refine leaves_cons (f := 38) (args := #[.pointer (some ⟨w.heap.size, 0, none⟩), .pointer (some ⟨w2.heap.size, 0, none⟩)]) (by simp) (by simp [go_sem]) ?_
        refine (impl_back w.heap.size w2.heap.size g n cap gw gc base _ X vs HX.out HN.out w6 j0 j1 HO6.out HW6.out).mono ?_
        rintro e u' w7 ⟨rfl, rfl, o7, C7⟩
        have HF := hid (show ChgS (fun b => b = g) w w7 from ((ChgS.of_below HB3.out _).trans HC6.out).trans C7)
        have HU7 := hid (owns_same HU6.out fun b hb => C7.block b (World.ownsRow.lt HU6.out b hb).2 (by have z := (World.ownsRow.lt HU6.out b hb).1; omega))
        have hw5s : w.heap.size ≤ w5.heap.size := by omega
        exact ⟨_, results_tmp2 rfl _ _ _, _, by rw [Hse.out]; rfl, by rw [Hse.out]; exact owns_mono HU7.out hw5s, o7, HF.out⟩
      | true =>
        have Hc := hid (show comL X es = doL X es by rw [Hcl.out]; rfl)
        have HO5 := hid (show w5.ownsRow base 3 1 (.slice (some ⟨g, 0, none⟩) n cap) n ((doL X es).flatMap encI) by rw [← Hc.out]; exact o5)
        have HL6 := hid (show (doL X es).length = n by rw [doL_len, HX.out])
        have HS6 := hid (show Same (serTo (doL X es) ds m (k+1)) (serTo vs ds ds.length 0) from .mk (by rw [← hS.out]; exact (Hyes.out (by first | exact rfl | trivial)).symm))
        clear o5 Hyes Hno hS Hcl
        go_wp2
        go_roundw
        case rel => exact ⟨k+1, m, doL X es, by omega, by go_num, HL6, HO5, HC5, HS6.out⟩
        case measure => simp [intOf]; omega
    · obtain rfl : m = 0 := by omega
      have Hse := hid (show serTo vs ds ds.length 0 = (X, true) by rw [← hS.out]; rfl)
      have hkl : ¬ (k : Int) < (ds.length : Int) := by omega
      obtain ⟨w5, hw5⟩ : ∃ y, y = wr := ⟨_, rfl⟩
      rw [← hw5] at HO HC hsr q0 ⊢
      have HO5 := HO
      have HC5 := HC
      have hs5 := hsr
      have q05 := q0
      clear HO HC hsr q0 hw5 hS
      have HI5 := hid (show Ints w5 (.slice (some ⟨g, 0, none⟩) n cap) X by show Flat w5 _ X.length 1 _; rw [HX.out]; exact Flat.of_owns HO5.out)
      go_wp2_with fail
      refine (impl_stateOf X _ _ HI5.out (by have := HX.out; omega)).mono ?_
      rintro e w6 ⟨u6, rfl, o6, b6⟩
      rw [HX.out] at o6
      have HO6 := hid (owns_below HO5.out b6)
      have HC6 := hid (HC5.out.trans (ChgS.of_below b6 (fun b => b = g)))
      have HU6 := hid o6
      obtain ⟨ua6, uc6, rfl, -, -⟩ := owns_form o6
      have j0 : w6.cell? ⟨w.heap.size, 0, none⟩ = some (.slice (some ⟨g, 0, none⟩) n cap) := (cell_chg HC6.out BS3.out.1 (show ¬ w.heap.size = g by omega)).trans (BS3.out.2 0 (by simp))
      have j1 : w6.cell? ⟨w2.heap.size, 0, none⟩ = some (.slice (some ⟨gw, 0, none⟩) n gc) := (cell_chg HC6.out BW3.out.1 (show ¬ w2.heap.size = g by omega)).trans (BW3.out.2 0 (by simp))
      have HW6 := hid (owns_same HW3.out fun b hb => HC6.out.block b (World.ownsRow.lt HW3.out b hb).2 (by have e : gw = b := Option.some.inj hb; omega))
      clear o6 b6 q05 HO5 HC5
      go_wp2
      refine leaves_cons (f := 38) (args := #[.pointer (some ⟨w.heap.size, 0, none⟩), .pointer (some ⟨w2.heap.size, 0, none⟩)]) (by simp) (by simp [go_sem]) ?_
      refine (impl_back w.heap.size w2.heap.size g n cap gw gc base _ X vs HX.out HN.out w6 j0 j1 HO6.out HW6.out).mono ?_
      rintro e u' w7 ⟨rfl, rfl, o7, C7⟩
      have HF := hid (show ChgS (fun b => b = g) w w7 from ((ChgS.of_below HB3.out _).trans HC6.out).trans C7)
      have HU7 := hid (owns_same HU6.out fun b hb => C7.block b (World.ownsRow.lt HU6.out b hb).2 (by have z := (World.ownsRow.lt HU6.out b hb).1; omega))
      have hw5s : w.heap.size ≤ w5.heap.size := by omega
      exact ⟨_, results_tmp2 rfl _ _ _, _, by rw [Hse.out]; rfl, by rw [Hse.out]; exact owns_mono HU7.out hw5s, o7, HF.out⟩
end Go.Proofs.Ytbbdchlabdilcaa
