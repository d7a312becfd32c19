/- Rings: the laws' helpers. (printed by tools/mk_c14.py) -/
import Derived.Test.YtilbmclhnlkkmaaAr
import Derived.Test.YtilbmclhnlkkmaaF14
import Derived.Test.YtilbmclhnlkkmaaTypes14
import Derived.Test.YtilbmclhnlkkmaaExt
import Derived.Test.YtilbmclhnlkkmaaEnc5
namespace Go.Proofs.Ytilbmclhnlkkmaa
set_option maxRecDepth 100000
open Go.RowKit Go.Proofs Go.Own
open Go Go.BigFrame
set_option linter.unusedVariables false
set_option linter.unusedSimpArgs false
theorem ints_len (L : List Int) : (L.flatMap encI).length = L.length := by have z := flatMap_len encI 1 (fun _ => rfl) L; omega
theorem ints_one (L : List Int) : (L.flatMap encI).all (·.oneCell') = true := by
  rw [List.all_eq_true]
  refine oneCell_enc (f := encI) (fun x c hc => ?_) L
  simp [encI] at hc
  rcases hc with rfl
  rfl
theorem int_at {w : World} {b : Nat} {A Z : List Value} {L : List Int} (h : BoxF w b (A ++ L.flatMap encI ++ Z)) (i : Nat) (hi : i < L.length) : w.cell? ⟨b, A.length + i, none⟩ = some (.int .i64 L[i]) := by
  have z := boxA_cell encI 1 (fun _ => rfl) h i hi 0 (by omega)
  simpa [encI] using z
theorem ints_set : ∀ (L : List Int) (k : Nat) (v : Int), (L.flatMap encI).set k (.int .i64 v) = (L.set k v).flatMap encI
  | [], _, _ => rfl
  | x :: L, 0, v => by simp [encI]
  | x :: L, k+1, v => by
    have ih := ints_set L k v
    rw [List.flatMap_cons, List.set_cons_succ, List.flatMap_cons, List.set_append_right _ _ (by show 1 ≤ _; omega), ← ih]
    rfl
def RingD.enc (r : RingD) : List Value := r.cells_.flatMap encI ++ [.int .i64 r.from_, .int .i64 r.many_]
theorem ring_len {r : RingD} (h : r.cells_.length = 8) : r.enc.length = 10 := by
  unfold RingD.enc; rw [List.length_append, ints_len, h]; rfl
theorem ring_one (r : RingD) : r.enc.all (·.oneCell') = true := by
  unfold RingD.enc
  rw [List.all_append, ints_one]; rfl
/-- A list of eight, written out. -/
theorem list8 {α : Type} (L : List α) (h : L.length = 8) : ∃ a b c d e f g h, L = [a, b, c, d, e, f, g, h] := by
  match L, h with
  | [a, b, c, d, e, f, g, h], _ => exact ⟨a, b, c, d, e, f, g, h, rfl⟩
end Go.Proofs.Ytilbmclhnlkkmaa
