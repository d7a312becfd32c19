/- Cuts of a list of numbers in memory. Of any program. -/
import Derived.Test.YtdgmbcmgjadoiaaBase2
namespace Go.Proofs.Ytdgmbcmgjadoiaa
set_option maxRecDepth 100000
open Go.RowKit Go.Proofs Go.Own
set_option linter.unusedVariables false
set_option linter.unusedSimpArgs false
theorem ints_pre {w : World} {a : Option Addr} {cap : Nat} {ks : List Int} (h : Ints w (.slice a ks.length cap) ks) (m : Nat) (hm : m ≤ ks.length) : Ints w (.slice a m cap) (ks.take m) := by
  obtain ⟨_, a', c, e, h1, h2, h0, h3⟩ := h
  obtain ⟨rfl, -, rfl⟩ : a = a' ∧ True ∧ cap = c := by simpa using e
  have hl : (ks.take m).length = m := by simp; omega
  refine ⟨flatMap_len encI 1 (fun _ => rfl) _, _, _, by rw [hl], by omega, h2, h0, ?_⟩
  rcases h3 with h3 | ⟨b', off', ha, hs, hc⟩
  · exact .inl (by omega)
  · refine .inr ⟨b', off', ha, hs, fun j hj => ?_⟩
    have hap : (ks.take m).flatMap encI ++ (ks.drop m).flatMap encI = ks.flatMap encI := by rw [← List.flatMap_append, List.take_append_drop]
    have hjx : j < (ks.flatMap encI).length := by rw [← hap, List.length_append]; omega
    rw [hc j hjx]
    congr 1
    simp only [← hap]
    rw [List.getElem_append_left hj]
theorem ints_post {w : World} {b off cap : Nat} {ks : List Int} (h : Ints w (.slice (some ⟨b, off, none⟩) ks.length cap) ks) (m : Nat) (hm : m ≤ ks.length) : Ints w (.slice (some (if cap = m then ⟨b, off, none⟩ else ⟨b, off + m, none⟩)) (ks.length - m) (cap - m)) (ks.drop m) := by
  obtain ⟨_, a', c, e, h1, h2, h0, h3⟩ := h
  obtain ⟨ha', -, rfl⟩ : some (⟨b, off, none⟩ : Addr) = a' ∧ True ∧ cap = c := by simpa using e
  have hl : (ks.drop m).length = ks.length - m := by simp
  refine ⟨flatMap_len encI 1 (fun _ => rfl) _, _, _, by rw [hl], by omega, by omega, (by intro e; cases e), ?_⟩
  by_cases hz : ks.length = m
  · exact .inl (by omega)
  · rcases h3 with h3 | ⟨b', off', ha, hs, hc⟩
    · omega
    · rw [← ha'] at ha
      simp only [Option.some.injEq, Addr.mk.injEq, and_true] at ha
      obtain ⟨rfl, rfl⟩ := ha
      refine .inr ⟨b, off + m, by rw [if_neg (by omega)], hs, fun j hj => ?_⟩
      have hap : (ks.take m).flatMap encI ++ (ks.drop m).flatMap encI = ks.flatMap encI := by rw [← List.flatMap_append, List.take_append_drop]
      have hlt : ((ks.take m).flatMap encI).length = m := by rw [flatMap_len encI 1 (fun _ => rfl)]; simp; omega
      have hjx : m + j < (ks.flatMap encI).length := by rw [← hap, List.length_append, hlt]; omega
      have z := hc (m + j) hjx
      rw [show off + m + j = off + (m + j) by omega, z]
      congr 1
      simp only [← hap]
      rw [List.getElem_append_right (by omega)]
      congr 1; omega
end Go.Proofs.Ytdgmbcmgjadoiaa
