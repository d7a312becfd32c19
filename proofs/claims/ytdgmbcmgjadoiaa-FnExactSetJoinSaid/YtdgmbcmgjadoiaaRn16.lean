/- Chapter 16: lists of lists of numbers, read out of the claim's form. -/
import Derived.Test.YtdgmbcmgjadoiaaEnc2
import Derived.Test.YtdgmbcmgjadoiaaRead2
import Derived.Test.YtdgmbcmgjadoiaaN16
/- Lists of data, read out of the claim's form. -/
namespace Go.Own
open Go.RowKit
open Go.ChangeShapes Go.WideShapes Go.ChangeAt
section
variable {P : Program} {w : World} {H : Type} {enc : TypeId × Value → H} {base : Nat} {spare : Nat → Bool} {held : Bool}
theorem rdsL_of_flat {α : Type} [A : Enc α] {v : Value} {ps : List {p : List Value × α // A.rds w p.1 p.2}} (h : Flat w v ps.length A.sz (ps.flatMap fun p => p.1.1)) : ∃ xs : List α, rdsL w v xs := by
  refine ⟨ps.map (·.1.2), v, ps.map (·.1.1), rfl, by simp, ?_, fun i hi hi2 => ?_⟩
  · rw [← List.flatMap_def, List.length_map]; exact h
  · simp only [List.getElem_map]
    exact (ps[i]'(by simpa using hi)).2
theorem rdsL_of_trod {α : Type} [A : Enc α] {t e : TypeId} {v : Value} {d : DataW H} {p : List MemPlace} (hsz : 0 < A.sz) (ht : P.underlying t = some (.slice e)) (hC : P.cellsOf e = A.sz)
    (hel : ∀ n cs' y, DataW.trod enc P w base spare held n e cs' = some y → ∃ x, A.rds w cs' x) (hv : ∃ a l c, v = .slice a l c)
    (h : DataW.Trod enc P w base spare held t v d p) : ∃ xs : List α, rdsL w v xs := by
  obtain ⟨ps, hp⟩ := flat_of_trod (α := {p : List Value × α // A.rds w p.1 p.2}) (fun p => p.1.1) A.sz hsz ht hC (fun n cs' y hy => by
    obtain ⟨x, hx⟩ := hel n cs' y hy; exact ⟨⟨(cs', x), hx⟩, rfl⟩) (fun p => A.rds_len p.2) hv h
  exact rdsL_of_flat hp
theorem rdsL_of_field {α : Type} [A : Enc α] {t e : TypeId} {c : Value} {n : Nat} {y : DataW H × List MemPlace} (hsz : 0 < A.sz) (ht : P.underlying t = some (.slice e)) (hC : P.cellsOf e = A.sz)
    (hel : ∀ n cs' y, DataW.trod enc P w base spare held n e cs' = some y → ∃ x, A.rds w cs' x)
    (h : DataW.trod enc P w base spare held n t [c] = some y) : ∃ xs : List α, rdsL w c xs := by
  obtain ⟨ps, hp⟩ := flat_of_field (α := {p : List Value × α // A.rds w p.1 p.2}) (fun p => p.1.1) A.sz hsz ht hC (fun n cs' y hy => by
    obtain ⟨x, hx⟩ := hel n cs' y hy; exact ⟨⟨(cs', x), hx⟩, rfl⟩) (fun p => A.rds_len p.2) h
  exact rdsL_of_flat hp
end
end Go.Own
namespace Go.Proofs.Ytdgmbcmgjadoiaa
set_option maxRecDepth 100000
open Go.RowKit Go.Proofs Go.Own
open Go.ChangeShapes Go.WideShapes Go.ChangeAt Go.Deep
set_option linter.unusedVariables false
section
variable {H : Type} {enc : TypeId × Value → H} {w : World} {base : Nat} {spare : Nat → Bool} {held : Bool}
theorem rtInt (n : Nat) (cs : List Value) (y : DataW H × List MemPlace) (h : DataW.trod enc Try.prog w base spare held n 3 cs = some y) : ∃ x : Int, encInt.rds w cs x := by
  obtain ⟨a, rfl⟩ := trodI Try.underlying3 n cs y h
  exact ⟨a, rfl⟩
theorem rtRow (n : Nat) (cs : List Value) (y : DataW H × List MemPlace) (h : DataW.trod enc Try.prog w base spare held n 22 cs = some y) : ∃ x : RowD, encRow.rds w cs x := by
  obtain ⟨c, rfl⟩ : ∃ c, cs = [c] := by
    rcases open_slice Try.underlying22 h with ⟨hcs, _⟩ | ⟨a, len, cap, m, n2, D, Pl, hcs, _⟩
    · exact ⟨_, hcs⟩
    · exact ⟨_, hcs⟩
  obtain ⟨xs, w0⟩ := rdsL_of_field (A := encInt.toEnc) (show 0 < 1 by omega) (c := c) Try.underlying22 (by kernel_rfl) rtInt h
  exact ⟨⟨xs⟩, c, rfl, w0⟩
theorem ofIntSSN {b0 : Nat} {v : Value} {d : DataW H} {p : List MemPlace} (hv : Value.okWide Try.prog w .any b0 34 v) (h : DataW.Trod enc Try.prog w base spare held 34 v d p) : ∃ (x : List RowD) (c0 : Value), c0 = v ∧ rdsL w c0 x := by
  obtain ⟨x, hx⟩ := rdsL_of_trod (A := encRow) (show 0 < 1 by omega) Try.underlying34 (by kernel_rfl) rtRow (okWide_slice Try.underlying34 hv) h
  exact ⟨x, v, rfl, hx⟩
end
end Go.Proofs.Ytdgmbcmgjadoiaa
