/- Chapter 2: HandleText, both. -/
import Derived.Test.YtiibpgbdnbpmoaaDoorShelf
import Derived.Handy
import Derived.WalkKit
import Derived.WalkSmall
import Derived.Laws.IdiomStrings
import Derived.Deep.QuietTactic
import Derived.BigQuiet
import Derived.Deep.RegionLaw
import Derived.Deep.RegionHeld3
import Derived.IntWalk
namespace Go.Proofs.YtiibpgbdnbpmoaaDoor
open Go.RowKit Go.Proofs
set_option linter.unusedVariables false
set_option linter.unusedSimpArgs false
theorem hid {p : Prop} (h : p) : Hid p := h
theorem ret_str {a b : ByteArray} (h : a = b) : Ending.returned (.string a) = .returned (.string b) := by rw [h]
def digS (n : Nat) : ByteArray := ⟨(Lib.decDigits n).toArray⟩
theorem dig1 (n : Nat) (h : n < 10) : Lib.decDigits n = [UInt8.ofNat (48 + n)] := by rw [Lib.decDigits, dif_pos h]
theorem conv1 (n : Nat) (hn : n < 10) (w : World) : (convert 27 9 (.slice (some ⟨w.heap.size, 0, none⟩) 1 1)).run Tryd.prog (w.alloc (.cells #[.int .u8 (48 + (n : Int))] 5)) = .ok (.string (digS n)) (w.alloc (.cells #[.int .u8 (48 + (n : Int))] 5)) := by
  have h := run_convert_bytes_back (P := Tryd.prog) (w.alloc (.cells #[.int .u8 (48 + (n : Int))] 5)) 27 9 5 ⟨w.heap.size, 0, none⟩ 1 [UInt8.ofNat (48 + n)] Tryd.underlying27 Tryd.underlying5 Tryd.underlying9 (fun j hj => by
    have hj0 : j = 0 := by simpa using hj
    subst hj0
    have e : ((UInt8.ofNat (48 + n)).toNat : Int) = 48 + (n : Int) := by
      rw [UInt8.toNat_ofNat']; omega
    simp [go_sem, e, Addr.add]
    omega)
  unfold digS
  rw [dig1 n hn]
  exact h
theorem told1 (n : Nat) (w : World) (hn : n < 10) :
    Calls Tryd.prog 7 #[.int .i64 n] w fun e w' => e = .returned (.string (digS n)) ∧ Below w.heap.size w w' := by
  have h1 : (n : Int) < 10 := by omega
  have h2 : (-10 : Int) < n := by omega
  have h3 : ¬ ((n : Int) < 0) := by omega
  have hcv := conv1 n hn w
  go_enter Tryd.func7, Tryd.ntmps7
  go_wp2
  go_ret
  exact ⟨rfl, (Below.refl _ _).alloc (Nat.le_refl _) _⟩
theorem told1I (x : Int) (k : Nat) (w : World) (hx : x = (k : Int)) (hk : k < 10) :
    Calls Tryd.prog 7 #[.int .i64 x] w fun e w' => e = .returned (.string (digS k)) ∧ Below w.heap.size w w' := by
  subst hx; exact told1 k w hk
theorem conv2 (n : Nat) (w : World) : (convert 27 9 (.slice (some ⟨w.heap.size, 0, none⟩) 1 1)).run Tryd.prog (w.alloc (.cells #[.int .u8 (48 + (n : Int) % 10)] 5)) = .ok (.string (digS (n % 10))) (w.alloc (.cells #[.int .u8 (48 + (n : Int) % 10)] 5)) := by
  have h := conv1 (n % 10) (by omega) w
  have e : ((n % 10 : Nat) : Int) = (n : Int) % 10 := by omega
  rw [e] at h; exact h
theorem conv3 (n g : Nat) (W : World) (hc : W.cell? ⟨g, 0, none⟩ = some (.int .u8 (48 + (n : Int) % 10))) : (convert 27 9 (.slice (some ⟨g, 0, none⟩) 1 1)).run Tryd.prog W = .ok (.string (digS (n % 10))) W := by
  have h := run_convert_bytes_back (P := Tryd.prog) W 27 9 5 ⟨g, 0, none⟩ 1 [UInt8.ofNat (48 + n % 10)] Tryd.underlying27 Tryd.underlying5 Tryd.underlying9 (fun j hj => by
    have hj0 : j = 0 := by simpa using hj
    subst hj0
    have e : (((UInt8.ofNat (48 + n % 10)).toNat : Nat) : Int) = 48 + (n : Int) % 10 := by
      rw [UInt8.toNat_ofNat']; omega
    have e2 : (⟨g, 0, none⟩ : Addr).add 0 = ⟨g, 0, none⟩ := by simp [Addr.add]
    rw [e2, hc]
    simp only [List.getElem_cons_zero, e])
  unfold digS
  rw [dig1 (n % 10) (by omega)]
  exact h
theorem dig2 (n : Nat) (h10 : ¬ n < 10) : digS (n / 10) ++ digS (n % 10) = digS n := by
  unfold digS
  have h1 : Lib.decDigits n = Lib.decDigits (n / 10) ++ [UInt8.ofNat (48 + n % 10)] := by rw [Lib.decDigits, dif_neg h10]
  have h2 := dig1 (n % 10) (by omega)
  rw [h1, h2]
  apply ByteArray.ext
  simp
theorem digS_size1 (n : Nat) (h : n < 10) : (digS n).size = 1 := by unfold digS; rw [dig1 n h]; rfl
theorem digS_size (n : Nat) (h : n < 100) : (digS n).size ≤ 2 := by
  by_cases h10 : n < 10
  · rw [digS_size1 n h10]; omega
  · rw [← dig2 n h10]
    have h1 := digS_size1 (n / 10) (by omega)
    have h2 := digS_size1 (n % 10) (by omega)
    simp [ByteArray.size_append, h1, h2]
theorem told2 (n : Nat) (w : World) (h10 : ¬ n < 10) (hn : n < 100) :
    Calls Tryd.prog 7 #[.int .i64 n] w fun e w' => e = .returned (.string (digS n)) ∧ Below w.heap.size w w' := by
  have h1 : ¬ ((n : Int) < 10) := by omega
  have h2 : (-10 : Int) < n := by omega
  have h3 : (0 : Int) ≤ n := by omega
  have h4 : ¬ ((n : Int) % 10 < 0) := by omega
  have h5 : (n : Int) < 100 := by omega
  have hcv := fun w => conv2 n w
  have hcv4 : ∀ w : World, (convert 27 9 (.slice (some ⟨w.heap.size, 0, none⟩) 1 1)).run Tryd.prog (w.alloc (.cells #[.int .u8 (48 + (n : Int) % 10)] 5)).drew = .ok (.string (digS (n % 10))) (w.alloc (.cells #[.int .u8 (48 + (n : Int) % 10)] 5)).drew := fun w => conv3 n w.heap.size _ (by simp [go_sem])
  have hcvW := fun W => conv3 n w.heap.size W
  have hz1 := digS_size1 (n / 10) (by omega)
  have hz2 := digS_size1 (n % 10) (by omega)
  have hw1 : IntKind.i64.wrap ((n : Int) / 10) = (n : Int) / 10 := IntWalk.i64_in _ (by omega)
  have hw2 : IntKind.i64.wrap (48 + (n : Int) % 10) = 48 + (n : Int) % 10 := IntWalk.i64_in _ (by omega)
  have hw3 : IntKind.u8.wrap (48 + (n : Int) % 10) = 48 + (n : Int) % 10 := by rw [IntKind.wrap_u8]; omega
  go_enter Tryd.func7, Tryd.ntmps7
  go_wp2
  go_region_law (first | (go_simp; go_at_call 7; refine (told1I _ (n / 10) _ (by clear hw1 hw2 hw3; omega) (by clear hw1 hw2 hw3; omega)).mono ?_; rintro e w2 ⟨rfl, b2⟩; have hB2 : Below w.heap.size w w2 := Below.trans (by repeat (first | exact Below.refl _ _ | refine Below.drew ?_ | refine Below.alloc ?_ (by simp) _)) (b2.mono (by simp)); have hc3 : w.heap.size < _ → _ := b2.cell (p := ⟨w.heap.size, 0, none⟩)))
  all_goals go_wp2
  all_goals go_ret
  all_goals refine ⟨ret_str (dig2 n h10), ?_⟩
  all_goals repeat (first | exact hB2 | refine Below.drew ?_ | refine Below.alloc ?_ (by first | (simp; done) | exact hB2.size) _)
theorem told (n : Nat) (x : Int) (w : World) (hx : x = (n : Int)) (hn : n < 100) :
    Calls Tryd.prog 7 #[.int .i64 x] w fun e w' => e = .returned (.string (digS n)) ∧ Below w.heap.size w w' := by
  subst hx
  by_cases h10 : n < 10
  · exact told1 n w h10
  · exact told2 n w h10 hn
theorem itoaI (n : Nat) (x : Int) (w : World) (hx : x = (n : Int)) (hn : n < 100) :
    Calls Tryd.prog 9 #[.int .i64 x] w fun e w' => e = .returned (.string (digS n)) ∧ w = w' := by
  subst hx
  exact (Tryd.strconv_Itoa_small n hn w).mono fun e w' ⟨h1, h2⟩ => ⟨h1, h2.symm⟩
def inB (x a b : Int) : Bool := decide (a ≤ x ∧ x ≤ b)
theorem spec_l1In (x a b : Int) (w : World) :
    Calls Tryd.prog 6 #[.int .i64 x, .int .i64 a, .int .i64 b] w fun e w' => e = .returned (.bool (inB x a b)) ∧ w = w' := by
  go_enter Tryd.func6, Tryd.ntmps6
  go_wp2
  all_goals go_ret
  all_goals (simp [inB, *]; try omega)
def dot : ByteArray := ⟨#[46]⟩
def handleF (h : Int) : ByteArray := if inB h 0 191 && decide (h % 8 ≤ 5) then digS (h / 8).toNat ++ dot ++ digS (h % 8).toNat else ⟨#[]⟩
theorem handleF_no {h : Int} (hn : ¬ (0 ≤ h ∧ h ≤ 191 ∧ h % 8 ≤ 5)) : handleF h = ⟨#[]⟩ := by
  unfold handleF inB
  rw [if_neg]
  simp only [Bool.and_eq_true, decide_eq_true_eq]
  omega
theorem handleF_yes {q : Nat} (h1 : q ≤ 191) (h2 : q % 8 ≤ 5) : handleF q = digS (q / 8) ++ dot ++ digS (q % 8) := by
  unfold handleF inB
  have e1 : ((q : Int) / 8).toNat = q / 8 := by omega
  have e2 : ((q : Int) % 8).toNat = q % 8 := by omega
  rw [if_pos, e1, e2]
  simp only [Bool.and_eq_true, decide_eq_true_eq]
  omega
theorem dot_size : dot.size = 1 := rfl
theorem spec_HandleText (h : Int) (w : World) :
    Calls Tryd.prog 4 #[.int .i64 h] w fun e w' => e = .returned (.string (handleF h)) ∧ Below w.heap.size w w' := by
  cases hin : inB h 0 191
  case false =>
    have hn := hid (handleF_no (h := h) (by simp [inB] at hin; omega))
    go_enter Tryd.func4, Tryd.ntmps4
    go_wp2_with ((go_at_call 6; refine (spec_l1In _ _ _ _).mono ?_; rintro e w' ⟨rfl, rfl⟩))
    go_ret
    exact ⟨ret_str hn.out.symm, Below.refl _ _⟩
  obtain ⟨q, rfl⟩ : ∃ q : Nat, h = q := ⟨h.toNat, by simp [inB] at hin; omega⟩
  have hq : (q : Int) ≤ 191 := by simp [inB] at hin; omega
  by_cases h5 : (5 : Int) < (q : Int) % 8
  · have hn := hid (handleF_no (h := (q : Int)) (by omega))
    go_enter Tryd.func4, Tryd.ntmps4
    go_wp2_with ((go_at_call 6; refine (spec_l1In _ _ _ _).mono ?_; rintro e w' ⟨rfl, rfl⟩))
    go_ret
    exact ⟨ret_str hn.out.symm, Below.refl _ _⟩
  have hy := hid (handleF_yes (q := q) (by omega) (by omega))
  have hz1 := digS_size (q / 8) (by omega)
  have hz2 := digS_size (q % 8) (by omega)
  go_enter Tryd.func4, Tryd.ntmps4
  go_wp2_with ((go_at_call 6; refine (spec_l1In _ _ _ _).mono ?_; rintro e w' ⟨rfl, rfl⟩))
  refine (told (q / 8) _ _ (by omega) (by omega)).mono ?_
  rintro e w2 ⟨rfl, b2⟩
  go_wp2_with fail
  refine (told (q % 8) _ _ (by omega) (by omega)).mono ?_
  rintro e w3 ⟨rfl, b3⟩
  have hz3 : (digS (q / 8) ++ ⟨#[46]⟩).size ≤ 3 := by rw [ByteArray.size_append]; have : (⟨#[46]⟩ : ByteArray).size = 1 := rfl; omega
  go_wp2
  go_ret
  exact ⟨ret_str hy.out.symm, b2.trans (b3.mono b2.size)⟩

theorem and7 (h : Int) : bits .and .i64 h 7 = h % 8 := by
  have h1 : (BitVec.ofInt 64 h).toNat = (h % (2 : Int) ^ 64).toNat := by simp [BitVec.toNat_ofInt]
  have h2 : (BitVec.ofInt 64 7).toNat = 2 ^ 3 - 1 := by decide
  show IntKind.i64.wrap ((BitVec.ofInt 64 h &&& BitVec.ofInt 64 7).toNat : Int) = _
  rw [BitVec.toNat_and, h1, h2, Nat.and_two_pow_sub_one_eq_mod, IntKind.wrap_i64]
  omega
theorem impl_handleParts (h : Int) (w : World) (hlo : -9223372036854775808 ≤ h) (hhi : h ≤ 9223372036854775807) :
    Calls Tryd.prog 8 #[.int .i64 h] w fun e w' => e = .returned (.tuple #[.int .i64 (h / 8), .int .i64 (h % 8)]) ∧ w = w' := by
  go_enter Tryd.func8, Tryd.ntmps8
  go_wp2
  go_ret2
  exact ⟨by simp only [and7]; rfl, rfl⟩
theorem impl_HandleText (h : Int) (w : World) (hlo : -9223372036854775808 ≤ h) (hhi : h ≤ 9223372036854775807) :
    Calls Tryd.prog 5 #[.int .i64 h] w fun e w' => e = .returned (.string (handleF h)) ∧ w = w' := by
  have hp := hid (show True from trivial)
  by_cases h1 : h / 8 < 0
  · have hn := hid (handleF_no (h := h) (by omega))
    go_enter Tryd.func5, Tryd.ntmps5
    go_wp2_with (go_at_call 8; refine (impl_handleParts _ _ hlo hhi).mono ?_; rintro e w' ⟨rfl, rfl⟩)
    go_ret
    exact ⟨ret_str hn.out.symm, rfl⟩
  by_cases h2 : (24 : Int) ≤ h / 8
  · have hn := hid (handleF_no (h := h) (by omega))
    go_enter Tryd.func5, Tryd.ntmps5
    go_wp2_with (go_at_call 8; refine (impl_handleParts _ _ hlo hhi).mono ?_; rintro e w' ⟨rfl, rfl⟩)
    go_ret
    exact ⟨ret_str hn.out.symm, rfl⟩
  obtain ⟨q, rfl⟩ : ∃ q : Nat, h = q := ⟨h.toNat, by omega⟩
  have hq : q ≤ 191 := by omega
  by_cases h5 : (5 : Int) < (q : Int) % 8
  · have hn := hid (handleF_no (h := (q : Int)) (by omega))
    go_enter Tryd.func5, Tryd.ntmps5
    go_wp2_with (go_at_call 8; refine (impl_handleParts _ _ hlo hhi).mono ?_; rintro e w' ⟨rfl, rfl⟩)
    go_ret
    exact ⟨ret_str hn.out.symm, rfl⟩
  have hy := hid (handleF_yes (q := q) (by omega) (by omega))
  have hz1 := digS_size (q / 8) (by omega)
  have hz2 := digS_size (q % 8) (by omega)
  go_enter Tryd.func5, Tryd.ntmps5
  go_wp2_with (go_at_call 8; refine (impl_handleParts _ _ hlo hhi).mono ?_; rintro e w' ⟨rfl, rfl⟩)
  refine (itoaI (q / 8) _ _ (by omega) (by omega)).mono ?_
  rintro e w' ⟨rfl, rfl⟩
  go_wp2_with fail
  refine (itoaI (q % 8) _ _ (by omega) (by omega)).mono ?_
  rintro e w' ⟨rfl, rfl⟩
  have hz3 : (digS (q / 8) ++ ⟨#[46]⟩).size ≤ 3 := by rw [ByteArray.size_append]; have : (⟨#[46]⟩ : ByteArray).size = 1 := rfl; omega
  go_wp2
  go_ret
  exact ⟨ret_str hy.out.symm, rfl⟩
theorem law_HandleText (h : Int) (w : World) (hlo : -9223372036854775808 ≤ h) (hhi : h ≤ 9223372036854775807) :
    Calls Tryd.prog 3 #[.int .i64 h] w fun e w' => e = .returned (.bool true) ∧ Below w.heap.size w w' := by
  go_enter Tryd.func3, Tryd.ntmps3
  go_wp2_with fail
  refine (spec_HandleText h _).mono ?_
  rintro e w2 ⟨rfl, b2⟩
  go_wp2_with fail
  refine (impl_HandleText h _ hlo hhi).mono ?_
  rintro e w3 ⟨rfl, rfl⟩
  go_wp2
  go_ret
  exact ⟨rfl, b2⟩
end Go.Proofs.YtiibpgbdnbpmoaaDoor
