/- Texts of the claim. -/
import Derived.Test.YtbbdchlabdilcabGreatM1
import Derived.Test.YtbbdchlabdilcabGreatM18
import Derived.Test.YtbbdchlabdilcabGreatTypes7
import Derived.Test.YtbbdchlabdilcabGreatEnc2
import Derived.Test.YtbbdchlabdilcabGreatN7o
import Derived.Test.YtbbdchlabdilcabGreatN10
namespace Go.Proofs.YtbbdchlabdilcabGreat
set_option maxRecDepth 100000
open Go.RowKit Go.Proofs Go.Own
open Go.ChangeShapes Go.WideShapes Go.ChangeAt
set_option linter.unusedVariables false

theorem trodEntry {H : Type} {enc : TypeId × Value → H} {w : World} {base : Nat} {spare : Nat → Bool} {held : Bool} (n : Nat) (cs : List Value) (y : DataW H × List MemPlace) (h : DataW.trod enc Tryz.prog w base spare held n 156 cs = some y) : ∃ a : Entry, cs = a.enc := by
  have hC : Tryz.prog.cellsOf 156 = 5 := by kernel_rfl
  have hl : cs.length = 5 := by obtain ⟨ys, n', _, _, hl, _⟩ := DataW.trod_struct Tryz.underlying156 h; omega
  obtain ⟨c0, c1, c2, c3, c4, rfl⟩ : ∃ c0 c1 c2 c3 c4, cs = [c0, c1, c2, c3, c4] := by
    match cs, hl with
    | [a0, a1, a2, a3, a4], _ => exact ⟨a0, a1, a2, a3, a4, rfl⟩
  obtain ⟨n0, y0, t0⟩ := field_sub Tryz.underlying156 h 0 _ 0 1 rfl rfl (by kernel_rfl)
  obtain ⟨u0, e0, _⟩ := DataW.trod_int (cs := [c0]) Tryz.underlying3 t0
  obtain ⟨n1, y1, t1⟩ := field_sub Tryz.underlying156 h 1 _ 1 1 rfl rfl (by kernel_rfl)
  obtain ⟨u1, e1, _⟩ := DataW.trod_int (cs := [c1]) Tryz.underlying3 t1
  obtain ⟨n2, y2, t2⟩ := field_sub Tryz.underlying156 h 2 _ 2 1 rfl rfl (by kernel_rfl)
  obtain ⟨u2, e2, _⟩ := DataW.trod_int (cs := [c2]) Tryz.underlying3 t2
  obtain ⟨n3, y3, t3⟩ := field_sub Tryz.underlying156 h 3 _ 3 1 rfl rfl (by kernel_rfl)
  obtain ⟨u3, e3, _⟩ := DataW.trod_int (cs := [c3]) Tryz.underlying3 t3
  obtain ⟨n4, y4, t4⟩ := field_sub Tryz.underlying156 h 4 _ 4 1 rfl rfl (by kernel_rfl)
  obtain ⟨u4, e4, _⟩ := DataW.trod_bool (cs := [c4]) Tryz.underlying4 t4
  obtain rfl := (List.cons.inj e0).1
  obtain rfl := (List.cons.inj e1).1
  obtain rfl := (List.cons.inj e2).1
  obtain rfl := (List.cons.inj e3).1
  obtain rfl := (List.cons.inj e4).1
  exact ⟨⟨u0, u1, u2, u3, u4⟩, rfl⟩
theorem ofEntry {H : Type} {enc : TypeId × Value → H} {w : World} {base : Nat} {spare : Nat → Bool} {held : Bool} {b0 : Nat} {v : Value} {d : DataW H} {p : List MemPlace} (hv : Value.okWide Tryz.prog w .any b0 156 v) (h : DataW.Trod enc Tryz.prog w base spare held 156 v d p) : ∃ a : Entry, v = a.val := by
  obtain ⟨cs, rfl, hsz⟩ := okWide_struct Tryz.underlying156 hv
  obtain ⟨n, h⟩ := h
  obtain ⟨a, ha⟩ := trodEntry n _ _ h
  obtain ⟨l⟩ := cs
  exact ⟨a, by simp only [Value.cells] at ha; rw [ha]; rfl⟩

theorem trodDesc {H : Type} {enc : TypeId × Value → H} {w : World} {base : Nat} {spare : Nat → Bool} {held : Bool} (n : Nat) (cs : List Value) (y : DataW H × List MemPlace) (h : DataW.trod enc Tryz.prog w base spare held n 115 cs = some y) : ∃ (u0 : Int) (u1 : Int) (c2 : Value) (x2 : List Entry), cs = [.int .i64 u0, .int .i64 u1, c2] ∧ Entrys w c2 x2 := by
  have hC : Tryz.prog.cellsOf 115 = 3 := by kernel_rfl
  have hl : cs.length = 3 := by obtain ⟨ys, n', _, _, hl, _⟩ := DataW.trod_struct Tryz.underlying115 h; omega
  obtain ⟨c0, c1, c2, rfl⟩ : ∃ c0 c1 c2, cs = [c0, c1, c2] := by
    match cs, hl with
    | [a0, a1, a2], _ => exact ⟨a0, a1, a2, rfl⟩
  obtain ⟨n0, y0, t0⟩ := field_sub Tryz.underlying115 h 0 _ 0 1 rfl rfl (by kernel_rfl)
  obtain ⟨u0, e0, _⟩ := DataW.trod_int (cs := [c0]) Tryz.underlying3 t0
  obtain rfl := (List.cons.inj e0).1
  obtain ⟨n1, y1, t1⟩ := field_sub Tryz.underlying115 h 1 _ 1 1 rfl rfl (by kernel_rfl)
  obtain ⟨u1, e1, _⟩ := DataW.trod_int (cs := [c1]) Tryz.underlying3 t1
  obtain rfl := (List.cons.inj e1).1
  obtain ⟨n2, y2, t2⟩ := field_sub Tryz.underlying115 h 2 _ 2 1 rfl rfl (by kernel_rfl)
  obtain ⟨x2, w2⟩ := flat_of_field Entry.enc 5 (by decide) (c := c2) Tryz.underlying71 (by kernel_rfl) trodEntry (fun _ => rfl) t2
  exact ⟨u0, u1, _, x2, rfl, w2⟩
theorem ofDesc {H : Type} {enc : TypeId × Value → H} {w : World} {base : Nat} {spare : Nat → Bool} {held : Bool} {b0 : Nat} {v : Value} {d : DataW H} {p : List MemPlace} (hv : Value.okWide Tryz.prog w .any b0 115 v) (h : DataW.Trod enc Tryz.prog w base spare held 115 v d p) : ∃ (u0 : Int) (u1 : Int) (c2 : Value) (x2 : List Entry), v = .agg #[.int .i64 u0, .int .i64 u1, c2] ∧ Entrys w c2 x2 := by
  obtain ⟨cs, rfl, hsz⟩ := okWide_struct Tryz.underlying115 hv
  obtain ⟨n, h⟩ := h
  obtain ⟨l⟩ := cs
  obtain ⟨u0, u1, c2, x2, e, w2⟩ := trodDesc n l _ h
  exact ⟨u0, u1, c2, x2, by rw [e], w2⟩

end Go.Proofs.YtbbdchlabdilcabGreat
namespace Go.Proofs.YtbbdchlabdilcabGreat
set_option maxRecDepth 100000
open Go.RowKit Go.Proofs Go.Own
open Go.ChangeShapes Go.WideShapes Go.ChangeAt
set_option linter.unusedVariables false

theorem trodHead {H : Type} {enc : TypeId × Value → H} {w : World} {base : Nat} {spare : Nat → Bool} {held : Bool} (n : Nat) (cs : List Value) (y : DataW H × List MemPlace) (h : DataW.trod enc Tryz.prog w base spare held n 132 cs = some y) : ∃ a : Head, cs = a.enc := by
  have hC : Tryz.prog.cellsOf 132 = 3 := by kernel_rfl
  have hl : cs.length = 3 := by obtain ⟨ys, n', _, _, hl, _⟩ := DataW.trod_struct Tryz.underlying132 h; omega
  obtain ⟨c0, c1, c2, rfl⟩ : ∃ c0 c1 c2, cs = [c0, c1, c2] := by
    match cs, hl with
    | [a0, a1, a2], _ => exact ⟨a0, a1, a2, rfl⟩
  obtain ⟨n0, y0, t0⟩ := field_sub Tryz.underlying132 h 0 _ 0 1 rfl rfl (by kernel_rfl)
  obtain ⟨u0, e0, _⟩ := DataW.trod_int (cs := [c0]) Tryz.underlying3 t0
  obtain ⟨n1, y1, t1⟩ := field_sub Tryz.underlying132 h 1 _ 1 1 rfl rfl (by kernel_rfl)
  obtain ⟨u1, e1, _⟩ := DataW.trod_int (cs := [c1]) Tryz.underlying3 t1
  obtain ⟨n2, y2, t2⟩ := field_sub Tryz.underlying132 h 2 _ 2 1 rfl rfl (by kernel_rfl)
  obtain ⟨u2, e2, _⟩ := DataW.trod_int (cs := [c2]) Tryz.underlying3 t2
  obtain rfl := (List.cons.inj e0).1
  obtain rfl := (List.cons.inj e1).1
  obtain rfl := (List.cons.inj e2).1
  exact ⟨⟨u0, u1, u2⟩, rfl⟩
theorem ofHead {H : Type} {enc : TypeId × Value → H} {w : World} {base : Nat} {spare : Nat → Bool} {held : Bool} {b0 : Nat} {v : Value} {d : DataW H} {p : List MemPlace} (hv : Value.okWide Tryz.prog w .any b0 132 v) (h : DataW.Trod enc Tryz.prog w base spare held 132 v d p) : ∃ a : Head, v = a.val := by
  obtain ⟨cs, rfl, hsz⟩ := okWide_struct Tryz.underlying132 hv
  obtain ⟨n, h⟩ := h
  obtain ⟨a, ha⟩ := trodHead n _ _ h
  obtain ⟨l⟩ := cs
  exact ⟨a, by simp only [Value.cells] at ha; rw [ha]; rfl⟩

theorem trodFrame {H : Type} {enc : TypeId × Value → H} {w : World} {base : Nat} {spare : Nat → Bool} {held : Bool} (n : Nat) (cs : List Value) (y : DataW H × List MemPlace) (h : DataW.trod enc Tryz.prog w base spare held n 158 cs = some y) : ∃ a : Frame, cs = a.enc := by
  have hC : Tryz.prog.cellsOf 158 = 3 := by kernel_rfl
  have hl : cs.length = 3 := by obtain ⟨ys, n', _, _, hl, _⟩ := DataW.trod_struct Tryz.underlying158 h; omega
  obtain ⟨c0, c1, c2, rfl⟩ : ∃ c0 c1 c2, cs = [c0, c1, c2] := by
    match cs, hl with
    | [a0, a1, a2], _ => exact ⟨a0, a1, a2, rfl⟩
  obtain ⟨n0, y0, t0⟩ := field_sub Tryz.underlying158 h 0 _ 0 1 rfl rfl (by kernel_rfl)
  obtain ⟨u0, e0, _⟩ := DataW.trod_int (cs := [c0]) Tryz.underlying3 t0
  obtain ⟨n1, y1, t1⟩ := field_sub Tryz.underlying158 h 1 _ 1 1 rfl rfl (by kernel_rfl)
  obtain ⟨u1, e1, _⟩ := DataW.trod_int (cs := [c1]) Tryz.underlying3 t1
  obtain ⟨n2, y2, t2⟩ := field_sub Tryz.underlying158 h 2 _ 2 1 rfl rfl (by kernel_rfl)
  obtain ⟨u2, e2, _⟩ := DataW.trod_int (cs := [c2]) Tryz.underlying3 t2
  obtain rfl := (List.cons.inj e0).1
  obtain rfl := (List.cons.inj e1).1
  obtain rfl := (List.cons.inj e2).1
  exact ⟨⟨u0, u1, u2⟩, rfl⟩
theorem ofFrame {H : Type} {enc : TypeId × Value → H} {w : World} {base : Nat} {spare : Nat → Bool} {held : Bool} {b0 : Nat} {v : Value} {d : DataW H} {p : List MemPlace} (hv : Value.okWide Tryz.prog w .any b0 158 v) (h : DataW.Trod enc Tryz.prog w base spare held 158 v d p) : ∃ a : Frame, v = a.val := by
  obtain ⟨cs, rfl, hsz⟩ := okWide_struct Tryz.underlying158 hv
  obtain ⟨n, h⟩ := h
  obtain ⟨a, ha⟩ := trodFrame n _ _ h
  obtain ⟨l⟩ := cs
  exact ⟨a, by simp only [Value.cells] at ha; rw [ha]; rfl⟩

end Go.Proofs.YtbbdchlabdilcabGreat
/- Chapter 7's nested data, read out of the claim's form. -/
/- Lists of data, read out of the claim's form. -/
namespace Go.Own
open Go.RowKit
open Go.ChangeShapes Go.WideShapes Go.ChangeAt
section
variable {P : Program} {w : World} {H : Type} {enc : TypeId × Value → H} {base : Nat} {spare : Nat → Bool} {held : Bool}
theorem rdsL_of_flat {α : Type} [A : Enc α] {v : Value} {ps : List {p : List Value × α // A.rds w p.1 p.2}} (h : Flat w v ps.length A.sz (ps.flatMap fun p => p.1.1)) : ∃ xs : List α, rdsL w v xs := by
  refine ⟨ps.map (·.1.2), v, ps.map (·.1.1), rfl, by simp, ?_, fun i hi hi2 => ?_⟩
  · rw [← List.flatMap_def, List.length_map]; exact h
  · simp only [List.getElem_map]
    exact (ps[i]'(by simpa using hi)).2
theorem rdsL_of_trod {α : Type} [A : Enc α] {t e : TypeId} {v : Value} {d : DataW H} {p : List MemPlace} (hsz : 0 < A.sz) (ht : P.underlying t = some (.slice e)) (hC : P.cellsOf e = A.sz)
    (hel : ∀ n cs' y, DataW.trod enc P w base spare held n e cs' = some y → ∃ x, A.rds w cs' x) (hv : ∃ a l c, v = .slice a l c)
    (h : DataW.Trod enc P w base spare held t v d p) : ∃ xs : List α, rdsL w v xs := by
  obtain ⟨ps, hp⟩ := flat_of_trod (α := {p : List Value × α // A.rds w p.1 p.2}) (fun p => p.1.1) A.sz hsz ht hC (fun n cs' y hy => by
    obtain ⟨x, hx⟩ := hel n cs' y hy; exact ⟨⟨(cs', x), hx⟩, rfl⟩) (fun p => A.rds_len p.2) hv h
  exact rdsL_of_flat hp
theorem rdsL_of_field {α : Type} [A : Enc α] {t e : TypeId} {c : Value} {n : Nat} {y : DataW H × List MemPlace} (hsz : 0 < A.sz) (ht : P.underlying t = some (.slice e)) (hC : P.cellsOf e = A.sz)
    (hel : ∀ n cs' y, DataW.trod enc P w base spare held n e cs' = some y → ∃ x, A.rds w cs' x)
    (h : DataW.trod enc P w base spare held n t [c] = some y) : ∃ xs : List α, rdsL w c xs := by
  obtain ⟨ps, hp⟩ := flat_of_field (α := {p : List Value × α // A.rds w p.1 p.2}) (fun p => p.1.1) A.sz hsz ht hC (fun n cs' y hy => by
    obtain ⟨x, hx⟩ := hel n cs' y hy; exact ⟨⟨(cs', x), hx⟩, rfl⟩) (fun p => A.rds_len p.2) h
  exact rdsL_of_flat hp
end
end Go.Own
namespace Go.Proofs.YtbbdchlabdilcabGreat
set_option maxRecDepth 100000
open Go.RowKit Go.Proofs Go.Own
open Go.ChangeShapes Go.WideShapes Go.ChangeAt
set_option linter.unusedVariables false
section
variable {H : Type} {enc : TypeId × Value → H} {w : World} {base : Nat} {spare : Nat → Bool} {held : Bool}
theorem rtHead (n : Nat) (cs : List Value) (y : DataW H × List MemPlace) (h : DataW.trod enc Tryz.prog w base spare held n 132 cs = some y) : ∃ x : Head, encHead.rds w cs x := by
  obtain ⟨a, rfl⟩ := trodHead n cs y h
  exact ⟨a, rfl⟩
theorem rtDesc (n : Nat) (cs : List Value) (y : DataW H × List MemPlace) (h : DataW.trod enc Tryz.prog w base spare held n 115 cs = some y) : ∃ x : DescD, encDesc.rds w cs x := by
  obtain ⟨u0, u1, c2, x2, rfl, w2⟩ := trodDesc n cs y h
  exact ⟨⟨u0, u1, x2⟩, c2, rfl, rdsEntrys.2 w2⟩
theorem ofDescN {b0 : Nat} {v : Value} {d : DataW H} {p : List MemPlace} (hv : Value.okWide Tryz.prog w .any b0 115 v) (h : DataW.Trod enc Tryz.prog w base spare held 115 v d p) : ∃ (x : DescD) (c0 : Value), v = .agg #[.int .i64 x.owner_, .int .i64 x.status_, c0] ∧ rdsL w c0 x.entries_ := by
  obtain ⟨u0, u1, c2, x2, rfl, w2⟩ := ofDesc hv h
  exact ⟨⟨u0, u1, x2⟩, c2, rfl, rdsEntrys.2 w2⟩
theorem trodStore (n : Nat) (cs : List Value) (y : DataW H × List MemPlace) (h : DataW.trod enc Tryz.prog w base spare held n 26 cs = some y) : ∃ (x : StoreD) (c0 c1 : Value), cs = [c0, c1] ∧ rdsL w c0 x.heads_ ∧ rdsL w c1 x.descs_ := by
  have hC : Tryz.prog.cellsOf 26 = 2 := by kernel_rfl
  have hl : cs.length = 2 := by obtain ⟨ys, n', _, _, hl, _⟩ := DataW.trod_struct Tryz.underlying26 h; omega
  obtain ⟨c0, c1, rfl⟩ : ∃ c0 c1, cs = [c0, c1] := by
    match cs, hl with
    | [a0, a1], _ => exact ⟨a0, a1, rfl⟩
  obtain ⟨n0, y0, t0⟩ := field_sub Tryz.underlying26 h 0 _ 0 1 rfl rfl (by kernel_rfl)
  obtain ⟨x0, w0⟩ := rdsL_of_field (A := encHead.toEnc) (show 0 < 3 by omega) (c := c0) Tryz.underlying23 (by kernel_rfl) rtHead t0
  obtain ⟨n1, y1, t1⟩ := field_sub Tryz.underlying26 h 1 _ 1 1 rfl rfl (by kernel_rfl)
  obtain ⟨x1, w1⟩ := rdsL_of_field (A := encDesc) (show 0 < 3 by omega) (c := c1) Tryz.underlying24 (by kernel_rfl) rtDesc t1
  exact ⟨⟨x0, x1⟩, c0, c1, rfl, w0, w1⟩
theorem ofStoreN {b0 : Nat} {v : Value} {d : DataW H} {p : List MemPlace} (hv : Value.okWide Tryz.prog w .any b0 26 v) (h : DataW.Trod enc Tryz.prog w base spare held 26 v d p) : ∃ (x : StoreD) (c0 c1 : Value), v = .agg #[c0, c1] ∧ rdsL w c0 x.heads_ ∧ rdsL w c1 x.descs_ := by
  obtain ⟨cs, rfl, hsz⟩ := okWide_struct Tryz.underlying26 hv
  obtain ⟨n, h⟩ := h
  obtain ⟨l⟩ := cs
  obtain ⟨x, c0, c1, e, w0, w1⟩ := trodStore n l _ h
  exact ⟨x, c0, c1, by rw [e], w0, w1⟩
end
end Go.Proofs.YtbbdchlabdilcabGreat
/- Chapter 10's nested data, read out of the claim's form. (printed by tools/mk_rn10.py) -/
namespace Go.Proofs.YtbbdchlabdilcabGreat
set_option maxRecDepth 100000
open Go.RowKit Go.Proofs Go.Own
open Go.ChangeShapes Go.WideShapes Go.ChangeAt
set_option linter.unusedVariables false
section
variable {H : Type} {enc : TypeId × Value → H} {w : World} {base : Nat} {spare : Nat → Bool} {held : Bool}
theorem rtInstr (n : Nat) (cs : List Value) (y : DataW H × List MemPlace) (h : DataW.trod enc Tryz.prog w base spare held n 154 cs = some y) : ∃ x : Instr, encInstr.rds w cs x := by
  obtain ⟨a, rfl⟩ := trodInstr n cs y h
  exact ⟨a, rfl⟩
theorem rtEntry (n : Nat) (cs : List Value) (y : DataW H × List MemPlace) (h : DataW.trod enc Tryz.prog w base spare held n 156 cs = some y) : ∃ x : Entry, encEntry.rds w cs x := by
  obtain ⟨a, rfl⟩ := trodEntry n cs y h
  exact ⟨a, rfl⟩
theorem rtFrame (n : Nat) (cs : List Value) (y : DataW H × List MemPlace) (h : DataW.trod enc Tryz.prog w base spare held n 158 cs = some y) : ∃ x : Frame, encFrame.rds w cs x := by
  obtain ⟨a, rfl⟩ := trodFrame n cs y h
  exact ⟨a, rfl⟩
theorem trodThread (n : Nat) (cs : List Value) (y : DataW H × List MemPlace) (h : DataW.trod enc Tryz.prog w base spare held n 74 cs = some y) : ∃ (x : ThreadD) (c1 c7 c9 : Value), cs = [.int .i64 x.id_, c1, .int .i64 x.at_, .int .i64 x.reg0_, .int .i64 x.reg1_, .int .i64 x.reg2_, .int .i64 x.reg3_, c7, .int .i64 x.check_, c9, .int .i64 x.mine_, .int .i64 x.state_, .int .i64 x.commits_, .int .i64 x.fails_] ∧ rdsL w c1 x.prog_ ∧ rdsL w c7 x.open_ ∧ rdsL w c9 x.stack_ := by
  have hC : Tryz.prog.cellsOf 74 = 14 := by kernel_rfl
  have hl : cs.length = 14 := by obtain ⟨ys, n', _, _, hl, _⟩ := DataW.trod_struct Tryz.underlying74 h; omega
  obtain ⟨c0, c1, c2, c3, c4, c5, c6, c7, c8, c9, c10, c11, c12, c13, rfl⟩ : ∃ c0 c1 c2 c3 c4 c5 c6 c7 c8 c9 c10 c11 c12 c13, cs = [c0, c1, c2, c3, c4, c5, c6, c7, c8, c9, c10, c11, c12, c13] := by
    match cs, hl with
    | [a0, a1, a2, a3, a4, a5, a6, a7, a8, a9, a10, a11, a12, a13], _ => exact ⟨a0, a1, a2, a3, a4, a5, a6, a7, a8, a9, a10, a11, a12, a13, rfl⟩
  obtain ⟨n0, y0, t0⟩ := field_sub Tryz.underlying74 h 0 _ 0 1 rfl rfl (by kernel_rfl)
  obtain ⟨u0, e0, _⟩ := DataW.trod_int (cs := [c0]) Tryz.underlying3 t0
  obtain ⟨n1, y1, t1⟩ := field_sub Tryz.underlying74 h 1 _ 1 1 rfl rfl (by kernel_rfl)
  obtain ⟨x1, w1⟩ := rdsL_of_field (A := encInstr.toEnc) (show 0 < 3 by omega) (c := c1) Tryz.underlying69 (by kernel_rfl) rtInstr t1
  obtain ⟨n2, y2, t2⟩ := field_sub Tryz.underlying74 h 2 _ 2 1 rfl rfl (by kernel_rfl)
  obtain ⟨u2, e2, _⟩ := DataW.trod_int (cs := [c2]) Tryz.underlying3 t2
  obtain ⟨na, ya, ta⟩ := field_sub Tryz.underlying74 h 3 _ 3 4 rfl rfl (by kernel_rfl)
  have ts := array_sub (cs := [c3, c4, c5, c6]) Tryz.underlying70 (k := 1) (by kernel_rfl) ta
  obtain ⟨n3, y3, t3⟩ := ts 0 (by omega)
  obtain ⟨u3, e3, _⟩ := DataW.trod_int (cs := [c3]) Tryz.underlying3 t3
  obtain ⟨n4, y4, t4⟩ := ts 1 (by omega)
  obtain ⟨u4, e4, _⟩ := DataW.trod_int (cs := [c4]) Tryz.underlying3 t4
  obtain ⟨n5, y5, t5⟩ := ts 2 (by omega)
  obtain ⟨u5, e5, _⟩ := DataW.trod_int (cs := [c5]) Tryz.underlying3 t5
  obtain ⟨n6, y6, t6⟩ := ts 3 (by omega)
  obtain ⟨u6, e6, _⟩ := DataW.trod_int (cs := [c6]) Tryz.underlying3 t6
  obtain ⟨n7, y7, t7⟩ := field_sub Tryz.underlying74 h 4 _ 7 1 rfl rfl (by kernel_rfl)
  obtain ⟨x7, w7⟩ := rdsL_of_field (A := encEntry.toEnc) (show 0 < 5 by omega) (c := c7) Tryz.underlying71 (by kernel_rfl) rtEntry t7
  obtain ⟨n8, y8, t8⟩ := field_sub Tryz.underlying74 h 5 _ 8 1 rfl rfl (by kernel_rfl)
  obtain ⟨u8, e8, _⟩ := DataW.trod_int (cs := [c8]) Tryz.underlying3 t8
  obtain ⟨n9, y9, t9⟩ := field_sub Tryz.underlying74 h 6 _ 9 1 rfl rfl (by kernel_rfl)
  obtain ⟨x9, w9⟩ := rdsL_of_field (A := encFrame.toEnc) (show 0 < 3 by omega) (c := c9) Tryz.underlying72 (by kernel_rfl) rtFrame t9
  obtain ⟨n10, y10, t10⟩ := field_sub Tryz.underlying74 h 7 _ 10 1 rfl rfl (by kernel_rfl)
  obtain ⟨u10, e10, _⟩ := DataW.trod_int (cs := [c10]) Tryz.underlying3 t10
  obtain ⟨n11, y11, t11⟩ := field_sub Tryz.underlying74 h 8 _ 11 1 rfl rfl (by kernel_rfl)
  obtain ⟨u11, e11, _⟩ := DataW.trod_int (cs := [c11]) Tryz.underlying3 t11
  obtain ⟨n12, y12, t12⟩ := field_sub Tryz.underlying74 h 9 _ 12 1 rfl rfl (by kernel_rfl)
  obtain ⟨u12, e12, _⟩ := DataW.trod_int (cs := [c12]) Tryz.underlying3 t12
  obtain ⟨n13, y13, t13⟩ := field_sub Tryz.underlying74 h 10 _ 13 1 rfl rfl (by kernel_rfl)
  obtain ⟨u13, e13, _⟩ := DataW.trod_int (cs := [c13]) Tryz.underlying3 t13
  obtain rfl := (List.cons.inj e0).1
  obtain rfl := (List.cons.inj e2).1
  obtain rfl := (List.cons.inj e3).1
  obtain rfl := (List.cons.inj e4).1
  obtain rfl := (List.cons.inj e5).1
  obtain rfl := (List.cons.inj e6).1
  obtain rfl := (List.cons.inj e8).1
  obtain rfl := (List.cons.inj e10).1
  obtain rfl := (List.cons.inj e11).1
  obtain rfl := (List.cons.inj e12).1
  obtain rfl := (List.cons.inj e13).1
  exact ⟨⟨u0, x1, u2, u3, u4, u5, u6, x7, u8, x9, u10, u11, u12, u13⟩, c1, c7, c9, rfl, w1, w7, w9⟩
theorem ofThreadN {b0 : Nat} {v : Value} {d : DataW H} {p : List MemPlace} (hv : Value.okWide Tryz.prog w .any b0 74 v) (h : DataW.Trod enc Tryz.prog w base spare held 74 v d p) : ∃ (x : ThreadD) (c1 c7 c9 : Value), v = .agg #[.int .i64 x.id_, c1, .int .i64 x.at_, .int .i64 x.reg0_, .int .i64 x.reg1_, .int .i64 x.reg2_, .int .i64 x.reg3_, c7, .int .i64 x.check_, c9, .int .i64 x.mine_, .int .i64 x.state_, .int .i64 x.commits_, .int .i64 x.fails_] ∧ rdsL w c1 x.prog_ ∧ rdsL w c7 x.open_ ∧ rdsL w c9 x.stack_ := by
  obtain ⟨cs, rfl, hsz⟩ := okWide_struct Tryz.underlying74 hv
  obtain ⟨n, h⟩ := h
  obtain ⟨l⟩ := cs
  obtain ⟨x, c1, c7, c9, e, w1, w7, w9⟩ := trodThread n l _ h
  exact ⟨x, c1, c7, c9, by rw [e], w1, w7, w9⟩
end
end Go.Proofs.YtbbdchlabdilcabGreat
/- Chapter 11's nested data, read out of the claim's form. (printed by tools/mk_rn11.py) -/
namespace Go.Proofs.YtbbdchlabdilcabGreat
set_option maxRecDepth 100000
open Go.RowKit Go.Proofs Go.Own
open Go.ChangeShapes Go.WideShapes Go.ChangeAt
set_option linter.unusedVariables false
section
variable {H : Type} {enc : TypeId × Value → H} {w : World} {base : Nat} {spare : Nat → Bool} {held : Bool}
theorem rtInt (n : Nat) (cs : List Value) (y : DataW H × List MemPlace) (h : DataW.trod enc Tryz.prog w base spare held n 3 cs = some y) : ∃ x : Int, encInt.rds w cs x := by
  obtain ⟨u, e, _⟩ := DataW.trod_int Tryz.underlying3 h
  exact ⟨u, e⟩
theorem rtEvent (n : Nat) (cs : List Value) (y : DataW H × List MemPlace) (h : DataW.trod enc Tryz.prog w base spare held n 98 cs = some y) : ∃ x : Event, encEvent.rds w cs x := by
  obtain ⟨a, rfl⟩ := trodEvent n cs y h
  exact ⟨a, rfl⟩
theorem rtThread (n : Nat) (cs : List Value) (y : DataW H × List MemPlace) (h : DataW.trod enc Tryz.prog w base spare held n 74 cs = some y) : ∃ x : ThreadD, encThread.rds w cs x := by
  obtain ⟨x, c1, c7, c9, rfl, w1, w7, w9⟩ := trodThread n cs y h
  exact ⟨x, c1, c7, c9, rfl, w1, w7, w9⟩
theorem trodWorld (n : Nat) (cs : List Value) (y : DataW H × List MemPlace) (h : DataW.trod enc Tryz.prog w base spare held n 30 cs = some y) : ∃ (x : WorldD) (c0 c1 c2 c3 c4 : Value), cs = [c0, c1, c2, c3, c4] ∧ rdsL w c0 x.first_ ∧ rdsL w c1 x.store_.heads_ ∧ rdsL w c2 x.store_.descs_ ∧ rdsL w c3 x.threads_ ∧ rdsL w c4 x.log_ := by
  have hC : Tryz.prog.cellsOf 30 = 5 := by kernel_rfl
  have hl : cs.length = 5 := by obtain ⟨ys, n', _, _, hl, _⟩ := DataW.trod_struct Tryz.underlying30 h; omega
  obtain ⟨c0, c1, c2, c3, c4, rfl⟩ : ∃ c0 c1 c2 c3 c4, cs = [c0, c1, c2, c3, c4] := by
    match cs, hl with
    | [a0, a1, a2, a3, a4], _ => exact ⟨a0, a1, a2, a3, a4, rfl⟩
  obtain ⟨n0, y0, t0⟩ := field_sub Tryz.underlying30 h 0 _ 0 1 rfl rfl (by kernel_rfl)
  obtain ⟨x0, w0⟩ := rdsL_of_field (A := encInt.toEnc) (show 0 < 1 by omega) (c := c0) Tryz.underlying22 (by kernel_rfl) rtInt t0
  obtain ⟨n1, y1, t1⟩ := field_sub Tryz.underlying30 h 1 _ 1 2 rfl rfl (by kernel_rfl)
  obtain ⟨xs, d1, d2, es, w1, w2⟩ := trodStore n1 [c1, c2] _ t1
  obtain ⟨rfl, rfl⟩ : c1 = d1 ∧ c2 = d2 := by simp only [List.cons.injEq, and_true] at es; exact es
  obtain ⟨n3, y3, t3⟩ := field_sub Tryz.underlying30 h 2 _ 3 1 rfl rfl (by kernel_rfl)
  obtain ⟨x3, w3⟩ := rdsL_of_field (A := encThread) (show 0 < 14 by omega) (c := c3) Tryz.underlying27 (by kernel_rfl) rtThread t3
  obtain ⟨n4, y4, t4⟩ := field_sub Tryz.underlying30 h 3 _ 4 1 rfl rfl (by kernel_rfl)
  obtain ⟨x4, w4⟩ := rdsL_of_field (A := encEvent.toEnc) (show 0 < 4 by omega) (c := c4) Tryz.underlying28 (by kernel_rfl) rtEvent t4
  exact ⟨⟨x0, xs, x3, x4⟩, c0, c1, c2, c3, c4, rfl, w0, w1, w2, w3, w4⟩
theorem ofWorldN {b0 : Nat} {v : Value} {d : DataW H} {p : List MemPlace} (hv : Value.okWide Tryz.prog w .any b0 30 v) (h : DataW.Trod enc Tryz.prog w base spare held 30 v d p) : ∃ (x : WorldD) (c0 c1 c2 c3 c4 : Value), v = .agg #[c0, c1, c2, c3, c4] ∧ rdsL w c0 x.first_ ∧ rdsL w c1 x.store_.heads_ ∧ rdsL w c2 x.store_.descs_ ∧ rdsL w c3 x.threads_ ∧ rdsL w c4 x.log_ := by
  obtain ⟨cs, rfl, hsz⟩ := okWide_struct Tryz.underlying30 hv
  obtain ⟨n, h⟩ := h
  obtain ⟨l⟩ := cs
  obtain ⟨x, c0, c1, c2, c3, c4, e, ws⟩ := trodWorld n l _ h
  exact ⟨x, c0, c1, c2, c3, c4, by rw [e], ws⟩
end
end Go.Proofs.YtbbdchlabdilcabGreat
