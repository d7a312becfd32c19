/- The model's l1Told, at every number below a million. -/
import Derived.Test.YtjcoakgdhiiiaaaBase2
import Derived.Test.YtjcoakgdhiiiaaaProg
import Derived.Lib.ItoaNum
import Derived.Laws.IdiomStrings
import Derived.Handy
import Derived.Deep.RegionLaw
import Derived.Deep.RegionHeld3
import Derived.IntWalk
namespace Go.Proofs.Ytjcoakgdhiiiaaa
set_option maxRecDepth 100000
open Go.RowKit Go.Proofs Go.Own
set_option linter.unusedVariables false
set_option linter.unusedSimpArgs false
theorem ret_str {a b : ByteArray} (h : a = b) : Ending.returned (.string a) = .returned (.string b) := by rw [h]
def digS (n : Nat) : ByteArray := ⟨(Lib.decDigits n).toArray⟩
theorem dig1 (n : Nat) (h : n < 10) : Lib.decDigits n = [UInt8.ofNat (48 + n)] := by rw [Lib.decDigits, dif_pos h]
theorem conv1 (n : Nat) (hn : n < 10) (w : World) : (convert 22 9 (.slice (some ⟨w.heap.size, 0, none⟩) 1 1)).run Try.prog (w.alloc (.cells #[.int .u8 (48 + (n : Int))] 5)) = .ok (.string (digS n)) (w.alloc (.cells #[.int .u8 (48 + (n : Int))] 5)) := by
  have h := run_convert_bytes_back (P := Try.prog) (w.alloc (.cells #[.int .u8 (48 + (n : Int))] 5)) 22 9 5 ⟨w.heap.size, 0, none⟩ 1 [UInt8.ofNat (48 + n)] Try.underlying22 Try.underlying5 Try.underlying9 (fun j hj => by
    have hj0 : j = 0 := by simpa using hj
    subst hj0
    have e : ((UInt8.ofNat (48 + n)).toNat : Int) = 48 + (n : Int) := by
      rw [UInt8.toNat_ofNat']; omega
    simp [go_sem, e, Addr.add]
    omega)
  unfold digS
  rw [dig1 n hn]
  exact h
theorem conv2 (n : Nat) (w : World) : (convert 22 9 (.slice (some ⟨w.heap.size, 0, none⟩) 1 1)).run Try.prog (w.alloc (.cells #[.int .u8 (48 + (n : Int) % 10)] 5)) = .ok (.string (digS (n % 10))) (w.alloc (.cells #[.int .u8 (48 + (n : Int) % 10)] 5)) := by
  have h := conv1 (n % 10) (by omega) w
  have e : ((n % 10 : Nat) : Int) = (n : Int) % 10 := by omega
  rw [e] at h; exact h
theorem conv3 (n g : Nat) (W : World) (hc : W.cell? ⟨g, 0, none⟩ = some (.int .u8 (48 + (n : Int) % 10))) : (convert 22 9 (.slice (some ⟨g, 0, none⟩) 1 1)).run Try.prog W = .ok (.string (digS (n % 10))) W := by
  have h := run_convert_bytes_back (P := Try.prog) W 22 9 5 ⟨g, 0, none⟩ 1 [UInt8.ofNat (48 + n % 10)] Try.underlying22 Try.underlying5 Try.underlying9 (fun j hj => by
    have hj0 : j = 0 := by simpa using hj
    subst hj0
    have e : (((UInt8.ofNat (48 + n % 10)).toNat : Nat) : Int) = 48 + (n : Int) % 10 := by
      rw [UInt8.toNat_ofNat']; omega
    have e2 : (⟨g, 0, none⟩ : Addr).add 0 = ⟨g, 0, none⟩ := by simp [Addr.add]
    rw [e2, hc]
    simp only [List.getElem_cons_zero, e])
  unfold digS
  rw [dig1 (n % 10) (by omega)]
  exact h
theorem dig2 (n : Nat) (h10 : ¬ n < 10) : digS (n / 10) ++ digS (n % 10) = digS n := by
  unfold digS
  have h1 : Lib.decDigits n = Lib.decDigits (n / 10) ++ [UInt8.ofNat (48 + n % 10)] := by rw [Lib.decDigits, dif_neg h10]
  have h2 := dig1 (n % 10) (by omega)
  rw [h1, h2]
  apply ByteArray.ext
  simp
theorem digS_size1 (n : Nat) (h : n < 10) : (digS n).size = 1 := by unfold digS; rw [dig1 n h]; rfl
theorem digS_size (n : Nat) (h : n < 100) : (digS n).size ≤ 2 := by
  by_cases h10 : n < 10
  · rw [digS_size1 n h10]; omega
  · rw [← dig2 n h10]
    have h1 := digS_size1 (n / 10) (by omega)
    have h2 := digS_size1 (n % 10) (by omega)
    simp [ByteArray.size_append, h1, h2]
theorem digS_sizeN : ∀ (d n : Nat), n < 10 ^ (d + 1) → (digS n).size ≤ d + 1
  | 0, n, h => by rw [digS_size1 n (by simpa using h)]; omega
  | d + 1, n, h => by
    by_cases h10 : n < 10
    · rw [digS_size1 n h10]; omega
    · rw [← dig2 n h10]
      have h1 := digS_sizeN d (n / 10) (by rw [Nat.pow_succ] at h; omega)
      have h2 := digS_size1 (n % 10) (by omega)
      simp [ByteArray.size_append, h2]
      omega
theorem digS_sizeB (n : Nat) (h : n < 1000000) : (digS n).size ≤ 6 := digS_sizeN 5 n h
end Go.Proofs.Ytjcoakgdhiiiaaa
