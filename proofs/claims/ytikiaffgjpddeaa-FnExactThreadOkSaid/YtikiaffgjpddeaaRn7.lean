/- Chapter 7's nested data, read out of the claim's form. -/
import Derived.Test.YtikiaffgjpddeaaEnc2
import Derived.Test.YtikiaffgjpddeaaM9
import Derived.Test.YtikiaffgjpddeaaM10
import Derived.Test.YtikiaffgjpddeaaN7o
/- Lists of data, read out of the claim's form. -/
namespace Go.Own
open Go.RowKit
open Go.ChangeShapes Go.WideShapes Go.ChangeAt
section
variable {P : Program} {w : World} {H : Type} {enc : TypeId × Value → H} {base : Nat} {spare : Nat → Bool} {held : Bool}
theorem rdsL_of_flat {α : Type} [A : Enc α] {v : Value} {ps : List {p : List Value × α // A.rds w p.1 p.2}} (h : Flat w v ps.length A.sz (ps.flatMap fun p => p.1.1)) : ∃ xs : List α, rdsL w v xs := by
  refine ⟨ps.map (·.1.2), v, ps.map (·.1.1), rfl, by simp, ?_, fun i hi hi2 => ?_⟩
  · rw [← List.flatMap_def, List.length_map]; exact h
  · simp only [List.getElem_map]
    exact (ps[i]'(by simpa using hi)).2
theorem rdsL_of_trod {α : Type} [A : Enc α] {t e : TypeId} {v : Value} {d : DataW H} {p : List MemPlace} (hsz : 0 < A.sz) (ht : P.underlying t = some (.slice e)) (hC : P.cellsOf e = A.sz)
    (hel : ∀ n cs' y, DataW.trod enc P w base spare held n e cs' = some y → ∃ x, A.rds w cs' x) (hv : ∃ a l c, v = .slice a l c)
    (h : DataW.Trod enc P w base spare held t v d p) : ∃ xs : List α, rdsL w v xs := by
  obtain ⟨ps, hp⟩ := flat_of_trod (α := {p : List Value × α // A.rds w p.1 p.2}) (fun p => p.1.1) A.sz hsz ht hC (fun n cs' y hy => by
    obtain ⟨x, hx⟩ := hel n cs' y hy; exact ⟨⟨(cs', x), hx⟩, rfl⟩) (fun p => A.rds_len p.2) hv h
  exact rdsL_of_flat hp
theorem rdsL_of_field {α : Type} [A : Enc α] {t e : TypeId} {c : Value} {n : Nat} {y : DataW H × List MemPlace} (hsz : 0 < A.sz) (ht : P.underlying t = some (.slice e)) (hC : P.cellsOf e = A.sz)
    (hel : ∀ n cs' y, DataW.trod enc P w base spare held n e cs' = some y → ∃ x, A.rds w cs' x)
    (h : DataW.trod enc P w base spare held n t [c] = some y) : ∃ xs : List α, rdsL w c xs := by
  obtain ⟨ps, hp⟩ := flat_of_field (α := {p : List Value × α // A.rds w p.1 p.2}) (fun p => p.1.1) A.sz hsz ht hC (fun n cs' y hy => by
    obtain ⟨x, hx⟩ := hel n cs' y hy; exact ⟨⟨(cs', x), hx⟩, rfl⟩) (fun p => A.rds_len p.2) h
  exact rdsL_of_flat hp
end
end Go.Own
namespace Go.Proofs.Ytikiaffgjpddeaa
set_option maxRecDepth 100000
open Go.RowKit Go.Proofs Go.Own
open Go.ChangeShapes Go.WideShapes Go.ChangeAt
set_option linter.unusedVariables false
section
variable {H : Type} {enc : TypeId × Value → H} {w : World} {base : Nat} {spare : Nat → Bool} {held : Bool}
theorem rtHead (n : Nat) (cs : List Value) (y : DataW H × List MemPlace) (h : DataW.trod enc Try.prog w base spare held n 105 cs = some y) : ∃ x : Head, encHead.rds w cs x := by
  obtain ⟨a, rfl⟩ := trodHead n cs y h
  exact ⟨a, rfl⟩
theorem rtDesc (n : Nat) (cs : List Value) (y : DataW H × List MemPlace) (h : DataW.trod enc Try.prog w base spare held n 95 cs = some y) : ∃ x : DescD, encDesc.rds w cs x := by
  obtain ⟨u0, u1, c2, x2, rfl, w2⟩ := trodDesc n cs y h
  exact ⟨⟨u0, u1, x2⟩, c2, rfl, rdsEntrys.2 w2⟩
theorem ofDescN {b0 : Nat} {v : Value} {d : DataW H} {p : List MemPlace} (hv : Value.okWide Try.prog w .any b0 95 v) (h : DataW.Trod enc Try.prog w base spare held 95 v d p) : ∃ (x : DescD) (c0 : Value), v = .agg #[.int .i64 x.owner_, .int .i64 x.status_, c0] ∧ rdsL w c0 x.entries_ := by
  obtain ⟨u0, u1, c2, x2, rfl, w2⟩ := ofDesc hv h
  exact ⟨⟨u0, u1, x2⟩, c2, rfl, rdsEntrys.2 w2⟩
theorem trodStore (n : Nat) (cs : List Value) (y : DataW H × List MemPlace) (h : DataW.trod enc Try.prog w base spare held n 25 cs = some y) : ∃ (x : StoreD) (c0 c1 : Value), cs = [c0, c1] ∧ rdsL w c0 x.heads_ ∧ rdsL w c1 x.descs_ := by
  have hC : Try.prog.cellsOf 25 = 2 := by kernel_rfl
  have hl : cs.length = 2 := by obtain ⟨ys, n', _, _, hl, _⟩ := DataW.trod_struct Try.underlying25 h; omega
  obtain ⟨c0, c1, rfl⟩ : ∃ c0 c1, cs = [c0, c1] := by
    match cs, hl with
    | [a0, a1], _ => exact ⟨a0, a1, rfl⟩
  obtain ⟨n0, y0, t0⟩ := field_sub Try.underlying25 h 0 _ 0 1 rfl rfl (by kernel_rfl)
  obtain ⟨x0, w0⟩ := rdsL_of_field (A := encHead.toEnc) (show 0 < 3 by omega) (c := c0) Try.underlying22 (by kernel_rfl) rtHead t0
  obtain ⟨n1, y1, t1⟩ := field_sub Try.underlying25 h 1 _ 1 1 rfl rfl (by kernel_rfl)
  obtain ⟨x1, w1⟩ := rdsL_of_field (A := encDesc) (show 0 < 3 by omega) (c := c1) Try.underlying23 (by kernel_rfl) rtDesc t1
  exact ⟨⟨x0, x1⟩, c0, c1, rfl, w0, w1⟩
theorem ofStoreN {b0 : Nat} {v : Value} {d : DataW H} {p : List MemPlace} (hv : Value.okWide Try.prog w .any b0 25 v) (h : DataW.Trod enc Try.prog w base spare held 25 v d p) : ∃ (x : StoreD) (c0 c1 : Value), v = .agg #[c0, c1] ∧ rdsL w c0 x.heads_ ∧ rdsL w c1 x.descs_ := by
  obtain ⟨cs, rfl, hsz⟩ := okWide_struct Try.underlying25 hv
  obtain ⟨n, h⟩ := h
  obtain ⟨l⟩ := cs
  obtain ⟨x, c0, c1, e, w0, w1⟩ := trodStore n l _ h
  exact ⟨x, c0, c1, by rw [e], w0, w1⟩
end
end Go.Proofs.Ytikiaffgjpddeaa
