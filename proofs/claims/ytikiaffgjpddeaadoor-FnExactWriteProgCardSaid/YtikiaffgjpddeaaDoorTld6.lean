/- The model's l1Told, at every number below 10^10, and below 0. -/
import Derived.Test.YtikiaffgjpddeaaDoorBase2
import Derived.Test.YtikiaffgjpddeaaDoorProg
import Derived.Lib.ItoaNum
import Derived.Laws.IdiomStrings
import Derived.Handy
import Derived.Deep.RegionLaw
import Derived.Deep.RegionHeld3
import Derived.IntWalk
namespace Go.Proofs.YtikiaffgjpddeaaDoor
set_option maxRecDepth 100000
open Go.RowKit Go.Proofs Go.Own
set_option linter.unusedVariables false
set_option linter.unusedSimpArgs false
theorem ret_str {a b : ByteArray} (h : a = b) : Ending.returned (.string a) = .returned (.string b) := by rw [h]
def digS (n : Nat) : ByteArray := ⟨(Lib.decDigits n).toArray⟩
theorem dig1 (n : Nat) (h : n < 10) : Lib.decDigits n = [UInt8.ofNat (48 + n)] := by rw [Lib.decDigits, dif_pos h]
theorem conv1 (n : Nat) (hn : n < 10) (w : World) : (convert 71 9 (.slice (some ⟨w.heap.size, 0, none⟩) 1 1)).run Tryd.prog (w.alloc (.cells #[.int .u8 (48 + (n : Int))] 5)) = .ok (.string (digS n)) (w.alloc (.cells #[.int .u8 (48 + (n : Int))] 5)) := by
  have h := run_convert_bytes_back (P := Tryd.prog) (w.alloc (.cells #[.int .u8 (48 + (n : Int))] 5)) 71 9 5 ⟨w.heap.size, 0, none⟩ 1 [UInt8.ofNat (48 + n)] Tryd.underlying71 Tryd.underlying5 Tryd.underlying9 (fun j hj => by
    have hj0 : j = 0 := by simpa using hj
    subst hj0
    have e : ((UInt8.ofNat (48 + n)).toNat : Int) = 48 + (n : Int) := by
      rw [UInt8.toNat_ofNat']; omega
    simp [go_sem, e, Addr.add]
    omega)
  unfold digS
  rw [dig1 n hn]
  exact h
theorem told1 (n : Nat) (w : World) (hn : n < 10) :
    Calls Tryd.prog 28 #[.int .i64 n] w fun e w' => e = .returned (.string (digS n)) ∧ Below w.heap.size w w' := by
  have h1 : (n : Int) < 10 := by omega
  have h2 : (-10 : Int) < n := by omega
  have h3 : ¬ ((n : Int) < 0) := by omega
  have hcv := conv1 n hn w
  go_enter Tryd.func28, Tryd.ntmps28
  go_wp2
  go_ret
  exact ⟨rfl, (Below.refl _ _).alloc (Nat.le_refl _) _⟩
theorem told1I (x : Int) (k : Nat) (w : World) (hx : x = (k : Int)) (hk : k < 10) :
    Calls Tryd.prog 28 #[.int .i64 x] w fun e w' => e = .returned (.string (digS k)) ∧ Below w.heap.size w w' := by
  subst hx; exact told1 k w hk
theorem conv2 (n : Nat) (w : World) : (convert 71 9 (.slice (some ⟨w.heap.size, 0, none⟩) 1 1)).run Tryd.prog (w.alloc (.cells #[.int .u8 (48 + (n : Int) % 10)] 5)) = .ok (.string (digS (n % 10))) (w.alloc (.cells #[.int .u8 (48 + (n : Int) % 10)] 5)) := by
  have h := conv1 (n % 10) (by omega) w
  have e : ((n % 10 : Nat) : Int) = (n : Int) % 10 := by omega
  rw [e] at h; exact h
theorem conv3 (n g : Nat) (W : World) (hc : W.cell? ⟨g, 0, none⟩ = some (.int .u8 (48 + (n : Int) % 10))) : (convert 71 9 (.slice (some ⟨g, 0, none⟩) 1 1)).run Tryd.prog W = .ok (.string (digS (n % 10))) W := by
  have h := run_convert_bytes_back (P := Tryd.prog) W 71 9 5 ⟨g, 0, none⟩ 1 [UInt8.ofNat (48 + n % 10)] Tryd.underlying71 Tryd.underlying5 Tryd.underlying9 (fun j hj => by
    have hj0 : j = 0 := by simpa using hj
    subst hj0
    have e : (((UInt8.ofNat (48 + n % 10)).toNat : Nat) : Int) = 48 + (n : Int) % 10 := by
      rw [UInt8.toNat_ofNat']; omega
    have e2 : (⟨g, 0, none⟩ : Addr).add 0 = ⟨g, 0, none⟩ := by simp [Addr.add]
    rw [e2, hc]
    simp only [List.getElem_cons_zero, e])
  unfold digS
  rw [dig1 (n % 10) (by omega)]
  exact h
theorem dig2 (n : Nat) (h10 : ¬ n < 10) : digS (n / 10) ++ digS (n % 10) = digS n := by
  unfold digS
  have h1 : Lib.decDigits n = Lib.decDigits (n / 10) ++ [UInt8.ofNat (48 + n % 10)] := by rw [Lib.decDigits, dif_neg h10]
  have h2 := dig1 (n % 10) (by omega)
  rw [h1, h2]
  apply ByteArray.ext
  simp
theorem digS_size1 (n : Nat) (h : n < 10) : (digS n).size = 1 := by unfold digS; rw [dig1 n h]; rfl
theorem digS_size (n : Nat) (h : n < 100) : (digS n).size ≤ 2 := by
  by_cases h10 : n < 10
  · rw [digS_size1 n h10]; omega
  · rw [← dig2 n h10]
    have h1 := digS_size1 (n / 10) (by omega)
    have h2 := digS_size1 (n % 10) (by omega)
    simp [ByteArray.size_append, h1, h2]
theorem digS_sizeN : ∀ (d n : Nat), n < 10 ^ (d + 1) → (digS n).size ≤ d + 1
  | 0, n, h => by rw [digS_size1 n (by simpa using h)]; omega
  | d + 1, n, h => by
    by_cases h10 : n < 10
    · rw [digS_size1 n h10]; omega
    · rw [← dig2 n h10]
      have h1 := digS_sizeN d (n / 10) (by rw [Nat.pow_succ] at h; omega)
      have h2 := digS_size1 (n % 10) (by omega)
      simp [ByteArray.size_append, h2]
      omega
theorem digS_sizeB (n : Nat) (h : n < 10000000000) : (digS n).size ≤ 10 := digS_sizeN 9 n h
theorem told2 (n : Nat) (w : World) (h10 : ¬ n < 10) (hn : n < 10000000000) (ih : ∀ (x : Int) (k : Nat) (w : World), x = (k : Int) → k < n →
    Calls Tryd.prog 28 #[.int .i64 x] w fun e w' => e = .returned (.string (digS k)) ∧ Below w.heap.size w w') :
    Calls Tryd.prog 28 #[.int .i64 n] w fun e w' => e = .returned (.string (digS n)) ∧ Below w.heap.size w w' := by
  have h1 : ¬ ((n : Int) < 10) := by omega
  have h2 : (-10 : Int) < n := by omega
  have h3 : (0 : Int) ≤ n := by omega
  have h4 : ¬ ((n : Int) % 10 < 0) := by omega
  have h5 : (n : Int) < 10000000000 := by omega
  have hcv := fun w => conv2 n w
  have hcv4 : ∀ w : World, (convert 71 9 (.slice (some ⟨w.heap.size, 0, none⟩) 1 1)).run Tryd.prog (w.alloc (.cells #[.int .u8 (48 + (n : Int) % 10)] 5)).drew = .ok (.string (digS (n % 10))) (w.alloc (.cells #[.int .u8 (48 + (n : Int) % 10)] 5)).drew := fun w => conv3 n w.heap.size _ (by simp [go_sem])
  have hcvW := fun W => conv3 n w.heap.size W
  have hz1 := digS_sizeB (n / 10) (by omega)
  have hz3 : ¬ (9223372036854775807 < (digS (n / 10)).size + 1) := by omega
  have hz2 := digS_size1 (n % 10) (by omega)
  have hw1 : IntKind.i64.wrap ((n : Int) / 10) = (n : Int) / 10 := IntWalk.i64_in _ (by omega)
  have hw2 : IntKind.i64.wrap (48 + (n : Int) % 10) = 48 + (n : Int) % 10 := IntWalk.i64_in _ (by omega)
  have hw3 : IntKind.u8.wrap (48 + (n : Int) % 10) = 48 + (n : Int) % 10 := by rw [IntKind.wrap_u8]; omega
  go_enter Tryd.func28, Tryd.ntmps28
  go_wp2
  go_region_law (first | (go_simp; go_at_call 28; refine (ih _ (n / 10) _ (by clear hw1 hw2 hw3 ih; omega) (by clear hw1 hw2 hw3 ih; omega)).mono ?_; rintro e w2 ⟨rfl, b2⟩; have hB2 : Below w.heap.size w w2 := Below.trans (by repeat (first | exact Below.refl _ _ | refine Below.drew ?_ | refine Below.alloc ?_ (by simp) _)) (b2.mono (by simp)); have hc3 : w.heap.size < _ → _ := b2.cell (p := ⟨w.heap.size, 0, none⟩)))
  all_goals go_wp2
  all_goals go_ret
  all_goals refine ⟨ret_str (dig2 n h10), ?_⟩
  all_goals repeat (first | exact hB2 | refine Below.drew ?_ | refine Below.alloc ?_ (by first | (simp; done) | exact hB2.size) _)
theorem told (n : Nat) : ∀ (x : Int) (w : World), x = (n : Int) → n < 10000000000 →
    Calls Tryd.prog 28 #[.int .i64 x] w fun e w' => e = .returned (.string (digS n)) ∧ Below w.heap.size w w' := by
  induction n using Nat.strongRecOn with
  | _ n ih =>
    intro x w hx hn
    by_cases h10 : n < 10
    · subst hx; exact told1 n w h10
    · subst hx; exact told2 n w h10 hn (fun x k w h1 h2 => ih k h2 x w h1 (by omega))

def minB : ByteArray := ⟨#[45]⟩
theorem neg1 (n : Nat) (w : World) (hn : n < 10) (h1 : 1 ≤ n) :
    Calls Tryd.prog 28 #[.int .i64 (-(n : Int))] w fun e w' => e = .returned (.string (minB ++ digS n)) ∧ Below w.heap.size w w' := by
  have a1 : -(n : Int) < 10 := by omega
  have a2 : (-10 : Int) < -(n : Int) := by omega
  have a3 : -(n : Int) < 0 := by omega
  have a4 : (n : Int) < 10 := by omega
  have a5 : (0 : Int) < (n : Int) := by omega
  have hcv := conv1 n hn w
  have hz := digS_size1 n hn
  have hz2 : ¬ (9223372036854775807 < 1 + (digS n).size) := by omega
  go_enter Tryd.func28, Tryd.ntmps28
  go_wp2
  go_ret
  exact ⟨rfl, (Below.refl _ _).alloc (Nat.le_refl _) _⟩
theorem neg2 (n : Nat) (w : World) (h10 : ¬ n < 10) (hn : n < 10000000000) (hp : ¬ n % 10 = 0)
    (ih : ∀ (x : Int) (k : Nat) (w : World), x = -(k : Int) → k < n → 1 ≤ k →
    Calls Tryd.prog 28 #[.int .i64 x] w fun e w' => e = .returned (.string (minB ++ digS k)) ∧ Below w.heap.size w w') :
    Calls Tryd.prog 28 #[.int .i64 (-(n : Int))] w fun e w' => e = .returned (.string (minB ++ digS n)) ∧ Below w.heap.size w w' := by
  have a1 : ¬ ((-10 : Int) < -(n : Int)) := by omega
  have h5 : (n : Int) < 10000000000 := by omega
  have a2 : (0 : Int) < (n : Int) % 10 := by omega
  have hcv := fun w => conv2 n w
  have hcv4 : ∀ w : World, (convert 71 9 (.slice (some ⟨w.heap.size, 0, none⟩) 1 1)).run Tryd.prog (w.alloc (.cells #[.int .u8 (48 + (n : Int) % 10)] 5)).drew = .ok (.string (digS (n % 10))) (w.alloc (.cells #[.int .u8 (48 + (n : Int) % 10)] 5)).drew := fun w => conv3 n w.heap.size _ (by simp [go_sem])
  have hcvW := fun W => conv3 n w.heap.size W
  have hz1 := digS_sizeB (n / 10) (by omega)
  have hz2 := digS_size1 (n % 10) (by omega)
  have hz4 : (minB ++ digS (n / 10)).size = 1 + (digS (n / 10)).size := by rw [ByteArray.size_append]; rfl
  have hz3 : ¬ (9223372036854775807 < (minB ++ digS (n / 10)).size + 1) := by omega
  have hz5 : ¬ (9223372036854775807 < 1 + (digS (n / 10)).size + 1) := by omega
  have hw1 : IntKind.i64.wrap (-((n : Int) / 10)) = -((n : Int) / 10) := IntWalk.i64_in _ (by omega)
  have hw2 : IntKind.i64.wrap (48 + (n : Int) % 10) = 48 + (n : Int) % 10 := IntWalk.i64_in _ (by omega)
  have hw3 : IntKind.u8.wrap (48 + (n : Int) % 10) = 48 + (n : Int) % 10 := by rw [IntKind.wrap_u8]; omega
  go_enter Tryd.func28, Tryd.ntmps28
  go_wp2
  go_region_law (first | (go_simp; go_at_call 28; refine (ih _ (n / 10) _ (by clear hw1 hw2 hw3 ih; omega) (by clear hw1 hw2 hw3 ih; omega) (by clear hw1 hw2 hw3 ih; omega)).mono ?_; rintro e w2 ⟨rfl, b2⟩; have hB2 : Below w.heap.size w w2 := Below.trans (by repeat (first | exact Below.refl _ _ | refine Below.drew ?_ | refine Below.alloc ?_ (by simp) _)) (b2.mono (by simp)); have hc3 : w.heap.size < _ → _ := b2.cell (p := ⟨w.heap.size, 0, none⟩)))
  all_goals go_wp2
  all_goals go_ret
  all_goals refine ⟨ret_str (by rw [ByteArray.append_assoc, dig2 n h10]), ?_⟩
  all_goals repeat (first | exact hB2 | refine Below.drew ?_ | refine Below.alloc ?_ (by first | (simp; done) | exact hB2.size) _)
theorem neg3 (n : Nat) (w : World) (h10 : ¬ n < 10) (hn : n < 10000000000) (hp : n % 10 = 0)
    (ih : ∀ (x : Int) (k : Nat) (w : World), x = -(k : Int) → k < n → 1 ≤ k →
    Calls Tryd.prog 28 #[.int .i64 x] w fun e w' => e = .returned (.string (minB ++ digS k)) ∧ Below w.heap.size w w') :
    Calls Tryd.prog 28 #[.int .i64 (-(n : Int))] w fun e w' => e = .returned (.string (minB ++ digS n)) ∧ Below w.heap.size w w' := by
  have a1 : ¬ ((-10 : Int) < -(n : Int)) := by omega
  have h5 : (n : Int) < 10000000000 := by omega
  have a2 : (n : Int) % 10 = 0 := by omega
  have hc0 : ∀ g W, W.cell? ⟨g, 0, none⟩ = some (Value.int .u8 48) → (convert 71 9 (.slice (some ⟨g, 0, none⟩) 1 1)).run Tryd.prog W = .ok (.string (digS 0)) W := fun g W h => by
    have h9 := conv3 n g W (by rw [h, a2]; rfl)
    rw [hp] at h9
    exact h9
  have hcv : ∀ w : World, (convert 71 9 (.slice (some ⟨w.heap.size, 0, none⟩) 1 1)).run Tryd.prog (w.alloc (.cells #[.int .u8 48] 5)) = .ok (.string (digS 0)) (w.alloc (.cells #[.int .u8 48] 5)) := fun w => hc0 _ _ (by simp [go_sem])
  have hcv4 : ∀ w : World, (convert 71 9 (.slice (some ⟨w.heap.size, 0, none⟩) 1 1)).run Tryd.prog (w.alloc (.cells #[.int .u8 48] 5)).drew = .ok (.string (digS 0)) (w.alloc (.cells #[.int .u8 48] 5)).drew := fun w => hc0 _ _ (by simp [go_sem])
  have hcvW := fun W => hc0 w.heap.size W
  have hz1 := digS_sizeB (n / 10) (by omega)
  have hz2 := digS_size1 0 (by omega)
  have hz4 : (minB ++ digS (n / 10)).size = 1 + (digS (n / 10)).size := by rw [ByteArray.size_append]; rfl
  have hz3 : ¬ (9223372036854775807 < (minB ++ digS (n / 10)).size + 1) := by omega
  have hz5 : ¬ (9223372036854775807 < 1 + (digS (n / 10)).size + 1) := by omega
  have hw48 : IntKind.i64.wrap 48 = 48 := IntWalk.i64_in _ (by omega)
  have hu48 : IntKind.u8.wrap 48 = 48 := by rw [IntKind.wrap_u8]; omega
  have hw1 : IntKind.i64.wrap (-((n : Int) / 10)) = -((n : Int) / 10) := IntWalk.i64_in _ (by omega)
  go_enter Tryd.func28, Tryd.ntmps28
  go_wp2
  go_region_law (first | (go_simp; go_at_call 28; refine (ih _ (n / 10) _ (by clear hw1 hw48 hu48 ih; omega) (by clear hw1 hw48 hu48 ih; omega) (by clear hw1 hw48 hu48 ih; omega)).mono ?_; rintro e w2 ⟨rfl, b2⟩; have hB2 : Below w.heap.size w w2 := Below.trans (by repeat (first | exact Below.refl _ _ | refine Below.drew ?_ | refine Below.alloc ?_ (by simp) _)) (b2.mono (by simp)); have hc3 : w.heap.size < _ → _ := b2.cell (p := ⟨w.heap.size, 0, none⟩)))
  all_goals go_wp2
  all_goals go_ret
  all_goals refine ⟨ret_str (by rw [ByteArray.append_assoc, ← dig2 n h10, hp]), ?_⟩
  all_goals repeat (first | exact hB2 | refine Below.drew ?_ | refine Below.alloc ?_ (by first | (simp; done) | exact hB2.size) _)
theorem neg (n : Nat) : ∀ (x : Int) (w : World), x = -(n : Int) → 1 ≤ n → n < 10000000000 →
    Calls Tryd.prog 28 #[.int .i64 x] w fun e w' => e = .returned (.string (minB ++ digS n)) ∧ Below w.heap.size w w' := by
  induction n using Nat.strongRecOn with
  | _ n ih =>
    intro x w hx h1 hn
    subst hx
    by_cases h10 : n < 10
    · exact neg1 n w h10 h1
    · have ih2 : ∀ (x : Int) (k : Nat) (w : World), x = -(k : Int) → k < n → 1 ≤ k →
        Calls Tryd.prog 28 #[.int .i64 x] w fun e w' => e = .returned (.string (minB ++ digS k)) ∧ Below w.heap.size w w' := fun x k w hx hk hk1 => ih k hk x w hx hk1 (by omega)
      by_cases hp : n % 10 = 0
      · exact neg3 n w h10 hn hp ih2
      · exact neg2 n w h10 hn hp ih2
/-- A number's text. -/
def itoaB (x : Int) : ByteArray := ⟨(Lib.itoa x).toArray⟩
theorem itoaB_pos {x : Int} (h : 0 ≤ x) : itoaB x = digS x.toNat := by unfold itoaB digS Lib.itoa; rw [if_neg (by omega)]
theorem itoaB_neg {x : Int} (h : x < 0) : itoaB x = minB ++ digS x.natAbs := by
  unfold itoaB digS Lib.itoa minB
  rw [if_pos h]
  apply ByteArray.ext
  simp
theorem itoaB_size {x : Int} (h1 : -1000000000 ≤ x) (h2 : x ≤ 1000000000) : (itoaB x).size ≤ 11 := by
  cases Int.lt_or_le x 0 with
  | inl h =>
    rw [itoaB_neg h, ByteArray.size_append]
    have := digS_sizeB x.natAbs (by omega)
    have e : minB.size = 1 := rfl
    omega
  | inr h =>
    rw [itoaB_pos h]
    have := digS_sizeB x.toNat (by omega)
    omega
theorem told6 (x : Int) (w : World) (h1 : -1000000000 ≤ x) (h2 : x ≤ 1000000000) :
    Calls Tryd.prog 28 #[.int .i64 x] w fun e w' => e = .returned (.string (itoaB x)) ∧ Below w.heap.size w w' := by
  cases Int.lt_or_le x 0 with
  | inl h =>
    rw [itoaB_neg h]
    exact neg x.natAbs x w (by omega) (by omega) (by omega)
  | inr h =>
    rw [itoaB_pos h]
    exact told x.toNat x w (by omega) (by omega)
end Go.Proofs.YtikiaffgjpddeaaDoor
