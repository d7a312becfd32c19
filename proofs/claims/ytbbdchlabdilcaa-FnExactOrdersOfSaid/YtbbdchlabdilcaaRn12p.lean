/- Chapter 12: lists of descriptors, read out of the claim's form. -/
import Derived.Test.YtbbdchlabdilcaaEnc2
import Derived.Test.YtbbdchlabdilcaaM4
import Derived.Test.YtbbdchlabdilcaaM3
/- Lists of data, read out of the claim's form. -/
namespace Go.Own
open Go.RowKit
open Go.ChangeShapes Go.WideShapes Go.ChangeAt
section
variable {P : Program} {w : World} {H : Type} {enc : TypeId × Value → H} {base : Nat} {spare : Nat → Bool} {held : Bool}
theorem rdsL_of_flat {α : Type} [A : Enc α] {v : Value} {ps : List {p : List Value × α // A.rds w p.1 p.2}} (h : Flat w v ps.length A.sz (ps.flatMap fun p => p.1.1)) : ∃ xs : List α, rdsL w v xs := by
  refine ⟨ps.map (·.1.2), v, ps.map (·.1.1), rfl, by simp, ?_, fun i hi hi2 => ?_⟩
  · rw [← List.flatMap_def, List.length_map]; exact h
  · simp only [List.getElem_map]
    exact (ps[i]'(by simpa using hi)).2
theorem rdsL_of_trod {α : Type} [A : Enc α] {t e : TypeId} {v : Value} {d : DataW H} {p : List MemPlace} (hsz : 0 < A.sz) (ht : P.underlying t = some (.slice e)) (hC : P.cellsOf e = A.sz)
    (hel : ∀ n cs' y, DataW.trod enc P w base spare held n e cs' = some y → ∃ x, A.rds w cs' x) (hv : ∃ a l c, v = .slice a l c)
    (h : DataW.Trod enc P w base spare held t v d p) : ∃ xs : List α, rdsL w v xs := by
  obtain ⟨ps, hp⟩ := flat_of_trod (α := {p : List Value × α // A.rds w p.1 p.2}) (fun p => p.1.1) A.sz hsz ht hC (fun n cs' y hy => by
    obtain ⟨x, hx⟩ := hel n cs' y hy; exact ⟨⟨(cs', x), hx⟩, rfl⟩) (fun p => A.rds_len p.2) hv h
  exact rdsL_of_flat hp
theorem rdsL_of_field {α : Type} [A : Enc α] {t e : TypeId} {c : Value} {n : Nat} {y : DataW H × List MemPlace} (hsz : 0 < A.sz) (ht : P.underlying t = some (.slice e)) (hC : P.cellsOf e = A.sz)
    (hel : ∀ n cs' y, DataW.trod enc P w base spare held n e cs' = some y → ∃ x, A.rds w cs' x)
    (h : DataW.trod enc P w base spare held n t [c] = some y) : ∃ xs : List α, rdsL w c xs := by
  obtain ⟨ps, hp⟩ := flat_of_field (α := {p : List Value × α // A.rds w p.1 p.2}) (fun p => p.1.1) A.sz hsz ht hC (fun n cs' y hy => by
    obtain ⟨x, hx⟩ := hel n cs' y hy; exact ⟨⟨(cs', x), hx⟩, rfl⟩) (fun p => A.rds_len p.2) h
  exact rdsL_of_flat hp
end
end Go.Own
namespace Go.Proofs.Ytbbdchlabdilcaa
set_option maxRecDepth 100000
open Go.RowKit Go.Proofs Go.Own
open Go.ChangeShapes Go.WideShapes Go.ChangeAt Go.Deep
set_option linter.unusedVariables false
section
variable {H : Type} {enc : TypeId × Value → H} {w : World} {base : Nat} {spare : Nat → Bool} {held : Bool}
theorem rtDesc (n : Nat) (cs : List Value) (y : DataW H × List MemPlace) (h : DataW.trod enc Try.prog w base spare held n 40 cs = some y) : ∃ x : DescD, encDesc.rds w cs x := by
  obtain ⟨u0, u1, c2, x2, rfl, w2⟩ := trodDesc n cs y h
  exact ⟨⟨u0, u1, x2⟩, c2, rfl, rdsEntrys.2 w2⟩
theorem ofDescSN {b0 : Nat} {v : Value} {d : DataW H} {p : List MemPlace} (hv : Value.okWide Try.prog w .any b0 23 v) (h : DataW.Trod enc Try.prog w base spare held 23 v d p) : ∃ (x : List DescD) (c0 : Value), c0 = v ∧ rdsL w c0 x := by
  obtain ⟨x, hx⟩ := rdsL_of_trod (A := encDesc) (show 0 < 3 by omega) Try.underlying23 (by kernel_rfl) rtDesc (okWide_slice Try.underlying23 hv) h
  exact ⟨x, v, rfl, hx⟩
end
end Go.Proofs.Ytbbdchlabdilcaa
