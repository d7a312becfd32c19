/- Chapter 7's nested data, read out of the claim's form. -/
import Derived.Test.YtikiaffgjpddeaaEnc2
import Derived.Test.YtikiaffgjpddeaaM8
import Derived.Test.YtikiaffgjpddeaaM9
import Derived.Test.YtikiaffgjpddeaaN7o
import Derived.Test.YtikiaffgjpddeaaN10
/- Lists of data, read out of the claim's form. -/
namespace Go.Own
open Go.RowKit
open Go.ChangeShapes Go.WideShapes Go.ChangeAt
section
variable {P : Program} {w : World} {H : Type} {enc : TypeId × Value → H} {base : Nat} {spare : Nat → Bool} {held : Bool}
theorem rdsL_of_flat {α : Type} [A : Enc α] {v : Value} {ps : List {p : List Value × α // A.rds w p.1 p.2}} (h : Flat w v ps.length A.sz (ps.flatMap fun p => p.1.1)) : ∃ xs : List α, rdsL w v xs := by
  refine ⟨ps.map (·.1.2), v, ps.map (·.1.1), rfl, by simp, ?_, fun i hi hi2 => ?_⟩
  · rw [← List.flatMap_def, List.length_map]; exact h
  · simp only [List.getElem_map]
    exact (ps[i]'(by simpa using hi)).2
theorem rdsL_of_trod {α : Type} [A : Enc α] {t e : TypeId} {v : Value} {d : DataW H} {p : List MemPlace} (hsz : 0 < A.sz) (ht : P.underlying t = some (.slice e)) (hC : P.cellsOf e = A.sz)
    (hel : ∀ n cs' y, DataW.trod enc P w base spare held n e cs' = some y → ∃ x, A.rds w cs' x) (hv : ∃ a l c, v = .slice a l c)
    (h : DataW.Trod enc P w base spare held t v d p) : ∃ xs : List α, rdsL w v xs := by
  obtain ⟨ps, hp⟩ := flat_of_trod (α := {p : List Value × α // A.rds w p.1 p.2}) (fun p => p.1.1) A.sz hsz ht hC (fun n cs' y hy => by
    obtain ⟨x, hx⟩ := hel n cs' y hy; exact ⟨⟨(cs', x), hx⟩, rfl⟩) (fun p => A.rds_len p.2) hv h
  exact rdsL_of_flat hp
theorem rdsL_of_field {α : Type} [A : Enc α] {t e : TypeId} {c : Value} {n : Nat} {y : DataW H × List MemPlace} (hsz : 0 < A.sz) (ht : P.underlying t = some (.slice e)) (hC : P.cellsOf e = A.sz)
    (hel : ∀ n cs' y, DataW.trod enc P w base spare held n e cs' = some y → ∃ x, A.rds w cs' x)
    (h : DataW.trod enc P w base spare held n t [c] = some y) : ∃ xs : List α, rdsL w c xs := by
  obtain ⟨ps, hp⟩ := flat_of_field (α := {p : List Value × α // A.rds w p.1 p.2}) (fun p => p.1.1) A.sz hsz ht hC (fun n cs' y hy => by
    obtain ⟨x, hx⟩ := hel n cs' y hy; exact ⟨⟨(cs', x), hx⟩, rfl⟩) (fun p => A.rds_len p.2) h
  exact rdsL_of_flat hp
end
end Go.Own
namespace Go.Proofs.Ytikiaffgjpddeaa
set_option maxRecDepth 100000
open Go.RowKit Go.Proofs Go.Own
open Go.ChangeShapes Go.WideShapes Go.ChangeAt
set_option linter.unusedVariables false
section
variable {H : Type} {enc : TypeId × Value → H} {w : World} {base : Nat} {spare : Nat → Bool} {held : Bool}
theorem rtHead (n : Nat) (cs : List Value) (y : DataW H × List MemPlace) (h : DataW.trod enc Try.prog w base spare held n 105 cs = some y) : ∃ x : Head, encHead.rds w cs x := by
  obtain ⟨a, rfl⟩ := trodHead n cs y h
  exact ⟨a, rfl⟩
theorem rtDesc (n : Nat) (cs : List Value) (y : DataW H × List MemPlace) (h : DataW.trod enc Try.prog w base spare held n 95 cs = some y) : ∃ x : DescD, encDesc.rds w cs x := by
  obtain ⟨u0, u1, c2, x2, rfl, w2⟩ := trodDesc n cs y h
  exact ⟨⟨u0, u1, x2⟩, c2, rfl, rdsEntrys.2 w2⟩
theorem ofDescN {b0 : Nat} {v : Value} {d : DataW H} {p : List MemPlace} (hv : Value.okWide Try.prog w .any b0 95 v) (h : DataW.Trod enc Try.prog w base spare held 95 v d p) : ∃ (x : DescD) (c0 : Value), v = .agg #[.int .i64 x.owner_, .int .i64 x.status_, c0] ∧ rdsL w c0 x.entries_ := by
  obtain ⟨u0, u1, c2, x2, rfl, w2⟩ := ofDesc hv h
  exact ⟨⟨u0, u1, x2⟩, c2, rfl, rdsEntrys.2 w2⟩
theorem trodStore (n : Nat) (cs : List Value) (y : DataW H × List MemPlace) (h : DataW.trod enc Try.prog w base spare held n 25 cs = some y) : ∃ (x : StoreD) (c0 c1 : Value), cs = [c0, c1] ∧ rdsL w c0 x.heads_ ∧ rdsL w c1 x.descs_ := by
  have hC : Try.prog.cellsOf 25 = 2 := by kernel_rfl
  have hl : cs.length = 2 := by obtain ⟨ys, n', _, _, hl, _⟩ := DataW.trod_struct Try.underlying25 h; omega
  obtain ⟨c0, c1, rfl⟩ : ∃ c0 c1, cs = [c0, c1] := by
    match cs, hl with
    | [a0, a1], _ => exact ⟨a0, a1, rfl⟩
  obtain ⟨n0, y0, t0⟩ := field_sub Try.underlying25 h 0 _ 0 1 rfl rfl (by kernel_rfl)
  obtain ⟨x0, w0⟩ := rdsL_of_field (A := encHead.toEnc) (show 0 < 3 by omega) (c := c0) Try.underlying22 (by kernel_rfl) rtHead t0
  obtain ⟨n1, y1, t1⟩ := field_sub Try.underlying25 h 1 _ 1 1 rfl rfl (by kernel_rfl)
  obtain ⟨x1, w1⟩ := rdsL_of_field (A := encDesc) (show 0 < 3 by omega) (c := c1) Try.underlying23 (by kernel_rfl) rtDesc t1
  exact ⟨⟨x0, x1⟩, c0, c1, rfl, w0, w1⟩
theorem ofStoreN {b0 : Nat} {v : Value} {d : DataW H} {p : List MemPlace} (hv : Value.okWide Try.prog w .any b0 25 v) (h : DataW.Trod enc Try.prog w base spare held 25 v d p) : ∃ (x : StoreD) (c0 c1 : Value), v = .agg #[c0, c1] ∧ rdsL w c0 x.heads_ ∧ rdsL w c1 x.descs_ := by
  obtain ⟨cs, rfl, hsz⟩ := okWide_struct Try.underlying25 hv
  obtain ⟨n, h⟩ := h
  obtain ⟨l⟩ := cs
  obtain ⟨x, c0, c1, e, w0, w1⟩ := trodStore n l _ h
  exact ⟨x, c0, c1, by rw [e], w0, w1⟩
end
end Go.Proofs.Ytikiaffgjpddeaa
/- Chapter 10's nested data, read out of the claim's form. (printed by tools/mk_rn10.py) -/
namespace Go.Proofs.Ytikiaffgjpddeaa
set_option maxRecDepth 100000
open Go.RowKit Go.Proofs Go.Own
open Go.ChangeShapes Go.WideShapes Go.ChangeAt
set_option linter.unusedVariables false
section
variable {H : Type} {enc : TypeId × Value → H} {w : World} {base : Nat} {spare : Nat → Bool} {held : Bool}
theorem rtInstr (n : Nat) (cs : List Value) (y : DataW H × List MemPlace) (h : DataW.trod enc Try.prog w base spare held n 88 cs = some y) : ∃ x : Instr, encInstr.rds w cs x := by
  obtain ⟨a, rfl⟩ := trodInstr n cs y h
  exact ⟨a, rfl⟩
theorem rtEntry (n : Nat) (cs : List Value) (y : DataW H × List MemPlace) (h : DataW.trod enc Try.prog w base spare held n 108 cs = some y) : ∃ x : Entry, encEntry.rds w cs x := by
  obtain ⟨a, rfl⟩ := trodEntry n cs y h
  exact ⟨a, rfl⟩
theorem rtFrame (n : Nat) (cs : List Value) (y : DataW H × List MemPlace) (h : DataW.trod enc Try.prog w base spare held n 110 cs = some y) : ∃ x : Frame, encFrame.rds w cs x := by
  obtain ⟨a, rfl⟩ := trodFrame n cs y h
  exact ⟨a, rfl⟩
theorem trodThread (n : Nat) (cs : List Value) (y : DataW H × List MemPlace) (h : DataW.trod enc Try.prog w base spare held n 31 cs = some y) : ∃ (x : ThreadD) (c1 c7 c9 : Value), cs = [.int .i64 x.id_, c1, .int .i64 x.at_, .int .i64 x.reg0_, .int .i64 x.reg1_, .int .i64 x.reg2_, .int .i64 x.reg3_, c7, .int .i64 x.check_, c9, .int .i64 x.mine_, .int .i64 x.state_, .int .i64 x.commits_, .int .i64 x.fails_] ∧ rdsL w c1 x.prog_ ∧ rdsL w c7 x.open_ ∧ rdsL w c9 x.stack_ := by
  have hC : Try.prog.cellsOf 31 = 14 := by kernel_rfl
  have hl : cs.length = 14 := by obtain ⟨ys, n', _, _, hl, _⟩ := DataW.trod_struct Try.underlying31 h; omega
  obtain ⟨c0, c1, c2, c3, c4, c5, c6, c7, c8, c9, c10, c11, c12, c13, rfl⟩ : ∃ c0 c1 c2 c3 c4 c5 c6 c7 c8 c9 c10 c11 c12 c13, cs = [c0, c1, c2, c3, c4, c5, c6, c7, c8, c9, c10, c11, c12, c13] := by
    match cs, hl with
    | [a0, a1, a2, a3, a4, a5, a6, a7, a8, a9, a10, a11, a12, a13], _ => exact ⟨a0, a1, a2, a3, a4, a5, a6, a7, a8, a9, a10, a11, a12, a13, rfl⟩
  obtain ⟨n0, y0, t0⟩ := field_sub Try.underlying31 h 0 _ 0 1 rfl rfl (by kernel_rfl)
  obtain ⟨u0, e0, _⟩ := DataW.trod_int (cs := [c0]) Try.underlying3 t0
  obtain ⟨n1, y1, t1⟩ := field_sub Try.underlying31 h 1 _ 1 1 rfl rfl (by kernel_rfl)
  obtain ⟨x1, w1⟩ := rdsL_of_field (A := encInstr.toEnc) (show 0 < 3 by omega) (c := c1) Try.underlying26 (by kernel_rfl) rtInstr t1
  obtain ⟨n2, y2, t2⟩ := field_sub Try.underlying31 h 2 _ 2 1 rfl rfl (by kernel_rfl)
  obtain ⟨u2, e2, _⟩ := DataW.trod_int (cs := [c2]) Try.underlying3 t2
  obtain ⟨na, ya, ta⟩ := field_sub Try.underlying31 h 3 _ 3 4 rfl rfl (by kernel_rfl)
  have ts := array_sub (cs := [c3, c4, c5, c6]) Try.underlying27 (k := 1) (by kernel_rfl) ta
  obtain ⟨n3, y3, t3⟩ := ts 0 (by omega)
  obtain ⟨u3, e3, _⟩ := DataW.trod_int (cs := [c3]) Try.underlying3 t3
  obtain ⟨n4, y4, t4⟩ := ts 1 (by omega)
  obtain ⟨u4, e4, _⟩ := DataW.trod_int (cs := [c4]) Try.underlying3 t4
  obtain ⟨n5, y5, t5⟩ := ts 2 (by omega)
  obtain ⟨u5, e5, _⟩ := DataW.trod_int (cs := [c5]) Try.underlying3 t5
  obtain ⟨n6, y6, t6⟩ := ts 3 (by omega)
  obtain ⟨u6, e6, _⟩ := DataW.trod_int (cs := [c6]) Try.underlying3 t6
  obtain ⟨n7, y7, t7⟩ := field_sub Try.underlying31 h 4 _ 7 1 rfl rfl (by kernel_rfl)
  obtain ⟨x7, w7⟩ := rdsL_of_field (A := encEntry.toEnc) (show 0 < 5 by omega) (c := c7) Try.underlying28 (by kernel_rfl) rtEntry t7
  obtain ⟨n8, y8, t8⟩ := field_sub Try.underlying31 h 5 _ 8 1 rfl rfl (by kernel_rfl)
  obtain ⟨u8, e8, _⟩ := DataW.trod_int (cs := [c8]) Try.underlying3 t8
  obtain ⟨n9, y9, t9⟩ := field_sub Try.underlying31 h 6 _ 9 1 rfl rfl (by kernel_rfl)
  obtain ⟨x9, w9⟩ := rdsL_of_field (A := encFrame.toEnc) (show 0 < 3 by omega) (c := c9) Try.underlying29 (by kernel_rfl) rtFrame t9
  obtain ⟨n10, y10, t10⟩ := field_sub Try.underlying31 h 7 _ 10 1 rfl rfl (by kernel_rfl)
  obtain ⟨u10, e10, _⟩ := DataW.trod_int (cs := [c10]) Try.underlying3 t10
  obtain ⟨n11, y11, t11⟩ := field_sub Try.underlying31 h 8 _ 11 1 rfl rfl (by kernel_rfl)
  obtain ⟨u11, e11, _⟩ := DataW.trod_int (cs := [c11]) Try.underlying3 t11
  obtain ⟨n12, y12, t12⟩ := field_sub Try.underlying31 h 9 _ 12 1 rfl rfl (by kernel_rfl)
  obtain ⟨u12, e12, _⟩ := DataW.trod_int (cs := [c12]) Try.underlying3 t12
  obtain ⟨n13, y13, t13⟩ := field_sub Try.underlying31 h 10 _ 13 1 rfl rfl (by kernel_rfl)
  obtain ⟨u13, e13, _⟩ := DataW.trod_int (cs := [c13]) Try.underlying3 t13
  obtain rfl := (List.cons.inj e0).1
  obtain rfl := (List.cons.inj e2).1
  obtain rfl := (List.cons.inj e3).1
  obtain rfl := (List.cons.inj e4).1
  obtain rfl := (List.cons.inj e5).1
  obtain rfl := (List.cons.inj e6).1
  obtain rfl := (List.cons.inj e8).1
  obtain rfl := (List.cons.inj e10).1
  obtain rfl := (List.cons.inj e11).1
  obtain rfl := (List.cons.inj e12).1
  obtain rfl := (List.cons.inj e13).1
  exact ⟨⟨u0, x1, u2, u3, u4, u5, u6, x7, u8, x9, u10, u11, u12, u13⟩, c1, c7, c9, rfl, w1, w7, w9⟩
theorem ofThreadN {b0 : Nat} {v : Value} {d : DataW H} {p : List MemPlace} (hv : Value.okWide Try.prog w .any b0 31 v) (h : DataW.Trod enc Try.prog w base spare held 31 v d p) : ∃ (x : ThreadD) (c1 c7 c9 : Value), v = .agg #[.int .i64 x.id_, c1, .int .i64 x.at_, .int .i64 x.reg0_, .int .i64 x.reg1_, .int .i64 x.reg2_, .int .i64 x.reg3_, c7, .int .i64 x.check_, c9, .int .i64 x.mine_, .int .i64 x.state_, .int .i64 x.commits_, .int .i64 x.fails_] ∧ rdsL w c1 x.prog_ ∧ rdsL w c7 x.open_ ∧ rdsL w c9 x.stack_ := by
  obtain ⟨cs, rfl, hsz⟩ := okWide_struct Try.underlying31 hv
  obtain ⟨n, h⟩ := h
  obtain ⟨l⟩ := cs
  obtain ⟨x, c1, c7, c9, e, w1, w7, w9⟩ := trodThread n l _ h
  exact ⟨x, c1, c7, c9, by rw [e], w1, w7, w9⟩
end
end Go.Proofs.Ytikiaffgjpddeaa
