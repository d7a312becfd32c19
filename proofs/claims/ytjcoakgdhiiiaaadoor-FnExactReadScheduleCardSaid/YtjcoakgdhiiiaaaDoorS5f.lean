/- Chapter 5's model: a word of a schedule. -/
import Derived.Test.YtjcoakgdhiiiaaaDoorS5
import Derived.Test.YtjcoakgdhiiiaaaDoorBx
import Derived.Deep.RegionHeld3
namespace Go.Proofs.YtjcoakgdhiiiaaaDoor
set_option maxRecDepth 100000
open Go.RowKit Go.Proofs Go.Own
set_option linter.unusedVariables false
set_option linter.unusedSimpArgs false
/-- A text's byte. -/
def bt (s : ByteArray) (i : Nat) : Nat := if h : i < s.size then (s[i]'h).toNat else 0
theorem bt_eq {s : ByteArray} {i : Nat} (h : i < s.size) : (s[i]'h).toNat = bt s i := by unfold bt; rw [dif_pos h]
theorem bt_lt (s : ByteArray) (i : Nat) : bt s i ≤ 255 := by
  unfold bt; split
  · have := UInt8.toNat_lt (s[i]'(by assumption)); omega
  · omega
/-- The number that digits from place i on tell, n standing ahead of them. -/
def digits (s : ByteArray) : Nat → Nat → Nat → Option Nat
  | 0, _, n => some n
  | k+1, i, n => if 48 ≤ bt s i ∧ bt s i ≤ 57 then digits s k (i+1) (10 * n + (bt s i - 48)) else none
/-- What a word tells. -/
def wordC (s : ByteArray) : Option Run :=
  if s.size = 0 then none
  else if ¬ (48 ≤ bt s 0 ∧ bt s 0 ≤ 51) then none
  else if s.size = 1 then some ⟨(bt s 0 : Int) - 48, 1⟩
  else if ¬ (3 ≤ s.size ∧ s.size ≤ 5) then none
  else if bt s 1 ≠ 42 then none
  else if bt s 2 = 48 then none
  else (digits s (s.size - 2) 2 0).bind fun n => if 2 ≤ n ∧ n ≤ 500 then some ⟨(bt s 0 : Int) - 48, (n : Int)⟩ else none
def WordR (s : ByteArray) (e : Ending) : Prop := ∃ (r : Run) (B : Bool), e = .returned (.tuple #[.agg #[.int .i64 r.thread_, .int .i64 r.many_], .bool B]) ∧ wordC s = if B = true then some r else none
theorem inY {x a b : Int} (h : a ≤ x ∧ x ≤ b) : inB x a b = true := by simp [inB, h]
theorem inN {x a b : Int} (h : ¬ (a ≤ x ∧ x ≤ b)) : inB x a b = false := by simp [inB]; omega
set_option maxHeartbeats 8000000 in
theorem spec_l5Run (s : ByteArray) (w : World) (hs : s.size ≤ 600) :
    Calls Tryd.prog 21 #[.string s] w fun e w' => WordR s e ∧ Below w.heap.size w w' := by
  by_cases s0 : (s.size : Int) = 0
  · have Hno := hid (show wordC s = none from if_pos (by omega))
    go_enter Tryd.func21, Tryd.ntmps21
    go_wp2_with (first | (go_at_call 24; refine (spec_l1In _ _ _ _).mono ?_; rintro e w' ⟨rfl, rfl⟩))
    exact bodyPost_ret (v := .tuple #[.agg #[.int .i64 0, .int .i64 0], .bool false]) (by simp [results, Tryd.results21, go_sem]) rfl ⟨⟨⟨0, 0⟩, false, rfl, Hno.out⟩, (by repeat (first | exact Below.refl _ _ | refine below_drewN ?_ _ | refine Below.drew ?_ | refine Below.setCell ?_ (by simp; try omega) _ | refine Below.alloc ?_ (by simp; try omega) _))⟩
  have l0 : 0 < s.size := by omega
  have l0' : (0 : Int) < (s.size : Int) := by omega
  have b0 := bt_eq l0
  have b0u := bt_lt s 0
  have z0 : ((s.size : Int) == 0) = false := beq_eq_false_iff_ne.mpr s0
  by_cases d0 : ¬ ((48 : Int) ≤ (bt s 0 : Int) ∧ (bt s 0 : Int) ≤ 51)
  · have Hno := hid (show wordC s = none by unfold wordC; rw [if_neg (by omega), if_pos (by omega)])
    have q := inN d0
    go_enter Tryd.func21, Tryd.ntmps21
    go_wp2_with (first | (go_at_call 24; refine (spec_l1In _ _ _ _).mono ?_; rintro e w' ⟨rfl, rfl⟩))
    exact bodyPost_ret (v := .tuple #[.agg #[.int .i64 0, .int .i64 0], .bool false]) (by simp [results, Tryd.results21, go_sem]) rfl ⟨⟨⟨0, 0⟩, false, rfl, Hno.out⟩, (by repeat (first | exact Below.refl _ _ | refine below_drewN ?_ _ | refine Below.drew ?_ | refine Below.setCell ?_ (by simp; try omega) _ | refine Below.alloc ?_ (by simp; try omega) _))⟩
  have d0' := Decidable.not_not.1 d0
  have q := inY d0'
  have d1 : (48 : Int) ≤ (bt s 0 : Int) := d0'.1
  have d2 : (bt s 0 : Int) ≤ 51 := d0'.2
  clear d0 d0'
  by_cases s1 : (s.size : Int) = 1
  · have Hy := hid (show wordC s = some ⟨(bt s 0 : Int) - 48, 1⟩ by unfold wordC; rw [if_neg (by omega), if_neg (by omega), if_pos (by omega)])
    go_enter Tryd.func21, Tryd.ntmps21
    go_wp2_with (first | (go_at_call 24; refine (spec_l1In _ _ _ _).mono ?_; rintro e w' ⟨rfl, rfl⟩))
    exact bodyPost_ret (v := .tuple #[.agg #[.int .i64 ((bt s 0 : Int) - 48), .int .i64 1], .bool true]) (by simp [results, Tryd.results21, go_sem]) rfl ⟨⟨⟨_, _⟩, true, rfl, Hy.out⟩, (by repeat (first | exact Below.refl _ _ | refine below_drewN ?_ _ | refine Below.drew ?_ | refine Below.setCell ?_ (by simp; try omega) _ | refine Below.alloc ?_ (by simp; try omega) _))⟩
  have z1 : ((s.size : Int) == 1) = false := beq_eq_false_iff_ne.mpr s1
  by_cases s3 : ¬ ((3 : Int) ≤ (s.size : Int) ∧ (s.size : Int) ≤ 5)
  · have Hno := hid (show wordC s = none by unfold wordC; rw [if_neg (by omega), if_neg (by omega), if_neg (by omega), if_pos (by omega)])
    have q3 := inN s3
    go_enter Tryd.func21, Tryd.ntmps21
    go_wp2_with (first | (go_at_call 24; refine (spec_l1In _ _ _ _).mono ?_; rintro e w' ⟨rfl, rfl⟩))
    exact bodyPost_ret (v := .tuple #[.agg #[.int .i64 0, .int .i64 0], .bool false]) (by simp [results, Tryd.results21, go_sem]) rfl ⟨⟨⟨0, 0⟩, false, rfl, Hno.out⟩, (by repeat (first | exact Below.refl _ _ | refine below_drewN ?_ _ | refine Below.drew ?_ | refine Below.setCell ?_ (by simp; try omega) _ | refine Below.alloc ?_ (by simp; try omega) _))⟩
  have s3' := Decidable.not_not.1 s3
  have q3 := inY s3'
  have m1 : 1 < s.size := by omega
  have m2 : 2 < s.size := by omega
  have m1' : (1 : Int) < (s.size : Int) := by omega
  have m2' : (2 : Int) < (s.size : Int) := by omega
  have b1 := bt_eq m1
  have b2 := bt_eq m2
  by_cases c1 : ¬ ((bt s 1 : Int) = 42)
  · have Hno := hid (show wordC s = none by unfold wordC; rw [if_neg (by omega), if_neg (by omega), if_neg (by omega), if_neg (by omega), if_pos (by omega)])
    go_enter Tryd.func21, Tryd.ntmps21
    go_wp2_with (first | (go_at_call 24; refine (spec_l1In _ _ _ _).mono ?_; rintro e w' ⟨rfl, rfl⟩))
    exact bodyPost_ret (v := .tuple #[.agg #[.int .i64 0, .int .i64 0], .bool false]) (by simp [results, Tryd.results21, go_sem]) rfl ⟨⟨⟨0, 0⟩, false, rfl, Hno.out⟩, (by repeat (first | exact Below.refl _ _ | refine below_drewN ?_ _ | refine Below.drew ?_ | refine Below.setCell ?_ (by simp; try omega) _ | refine Below.alloc ?_ (by simp; try omega) _))⟩
  have c1' := Decidable.not_not.1 c1
  by_cases c2 : (bt s 2 : Int) = 48
  · have Hno := hid (show wordC s = none by unfold wordC; rw [if_neg (by omega), if_neg (by omega), if_neg (by omega), if_neg (by omega), if_neg (by omega), if_pos (by omega)])
    go_enter Tryd.func21, Tryd.ntmps21
    go_wp2_with (first | (go_at_call 24; refine (spec_l1In _ _ _ _).mono ?_; rintro e w' ⟨rfl, rfl⟩))
    exact bodyPost_ret (v := .tuple #[.agg #[.int .i64 0, .int .i64 0], .bool false]) (by simp [results, Tryd.results21, go_sem]) rfl ⟨⟨⟨0, 0⟩, false, rfl, Hno.out⟩, (by repeat (first | exact Below.refl _ _ | refine below_drewN ?_ _ | refine Below.drew ?_ | refine Below.setCell ?_ (by simp; try omega) _ | refine Below.alloc ?_ (by simp; try omega) _))⟩
  have z2 : ((bt s 2 : Int) == 48) = false := beq_eq_false_iff_ne.mpr c2
  have Hw := hid (show wordC s = (digits s (s.size - 2) 2 0).bind fun n => if 2 ≤ n ∧ n ≤ 500 then some ⟨(bt s 0 : Int) - 48, (n : Int)⟩ else none by unfold wordC; rw [if_neg (by omega), if_neg (by omega), if_neg (by omega), if_neg (by omega), if_neg (by omega), if_neg (by omega)])
  go_enter Tryd.func21, Tryd.ntmps21
  go_wp2_with (first | (go_at_call 24; refine (spec_l1In _ _ _ _).mono ?_; rintro e w' ⟨rfl, rfl⟩))
  obtain ⟨W3, hW3⟩ : ∃ X, ((w.alloc (Obj.cells #[Value.int IntKind.i64 0, Value.int IntKind.i64 0] 37)).alloc (Obj.cells #[Value.int IntKind.i64 ((bt s 0 : Int) - 48), Value.int IntKind.i64 1] 37)) = X := ⟨_, rfl⟩
  rw [hW3]
  go_loopw [5, 6] (fun n i wr => ∃ J m : Nat, 2 ≤ J ∧ J ≤ s.size ∧ i = .int .i64 J ∧ n = .int .i64 m ∧ m + 1 ≤ 10 ^ (J - 2) ∧ Hid (digits s (s.size - 2) 2 0 = digits s (s.size - J) J m) ∧ wr = W3) (fun _ i _ => s.size - (intOf i).toNat)
  case atStart => exact ⟨2, 0, by omega, by omega, rfl, rfl, by decide, hid rfl, rfl⟩
  case round =>
    obtain ⟨J, m, hJ2, hJ, rfl, rfl, hm, hd, rfl⟩ := hrel
    subst hW3
    by_cases hlt : J < s.size
    · have hlt' : (J : Int) < (s.size : Int) := by omega
      have bk := bt_eq hlt
      have bku := bt_lt s J
      have hm9 : m ≤ 1000 := by
        have : 10 ^ (J - 2) ≤ 10 ^ 3 := Nat.pow_le_pow_right (by decide) (by omega)
        omega
      have hm8 : (m : Int) ≤ 1000 := by omega
      have hm7 : (0 : Int) ≤ (m : Int) := by omega
      have hm6 : IntKind.i64.wrap (10 * (m : Int)) = 10 * (m : Int) := IntWalk.i64_in _ (by omega)
      have hm' := hid hm
      clear hm
      by_cases dk : (48 : Int) ≤ (bt s J : Int) ∧ (bt s J : Int) ≤ 57
      · have qk := inY dk
        have dk1 := dk.1
        have dk2 := dk.2
        go_wp2_with (first | (go_at_call 24; refine (spec_l1In _ _ _ _).mono ?_; rintro e w' ⟨rfl, rfl⟩))
        go_roundw
        case rel => exact ⟨J + 1, 10 * m + (bt s J - 48), by omega, by omega, by go_num, by go_num, by have := hm'.out; rw [show J + 1 - 2 = (J - 2) + 1 by omega, Nat.pow_succ]; omega, by
          refine hid (hd.out.trans ?_)
          rw [show s.size - J = (s.size - (J + 1)) + 1 by omega]
          exact if_pos (by omega), trivial⟩
        case measure => simp [intOf]; omega
      · have qk := inN dk
        have Hno := hid (show wordC s = none by rw [Hw.out, hd.out, show s.size - J = (s.size - J - 1) + 1 by omega]; unfold digits; rw [if_neg (by omega)]; rfl)
        go_wp2_with (first | (go_at_call 24; refine (spec_l1In _ _ _ _).mono ?_; rintro e w' ⟨rfl, rfl⟩))
        exact bodyPost_ret (v := .tuple #[.agg #[.int .i64 0, .int .i64 0], .bool false]) (by simp [results, Tryd.results21, go_sem]) rfl ⟨⟨⟨0, 0⟩, false, rfl, Hno.out⟩, (by repeat (first | exact Below.refl _ _ | refine below_drewN ?_ _ | refine Below.drew ?_ | refine Below.setCell ?_ (by simp; try omega) _ | refine Below.alloc ?_ (by simp; try omega) _))⟩
    · obtain rfl : J = s.size := by omega
      have hm9 : m ≤ 1000 := by
        have : 10 ^ (s.size - 2) ≤ 10 ^ 3 := Nat.pow_le_pow_right (by decide) (by omega)
        omega
      by_cases hr : (2 : Int) ≤ (m : Int) ∧ (m : Int) ≤ 500
      · have qr := inY hr
        have Hy := hid (show wordC s = some ⟨(bt s 0 : Int) - 48, m⟩ by rw [Hw.out, hd.out, Nat.sub_self]; show (if 2 ≤ m ∧ m ≤ 500 then _ else _) = _; rw [if_pos (by omega)])
        go_wp2_with (first | (go_at_call 24; refine (spec_l1In _ _ _ _).mono ?_; rintro e w' ⟨rfl, rfl⟩))
        go_region_with (first | (go_at_call 24; refine (spec_l1In _ _ _ _).mono ?_; rintro e w' ⟨rfl, rfl⟩))
        all_goals go_wp2
        all_goals exact bodyPost_ret (v := .tuple #[.agg #[.int .i64 ((bt s 0 : Int) - 48), .int .i64 m], .bool true]) (by simp [results, Tryd.results21, go_sem]) rfl ⟨⟨⟨_, _⟩, true, rfl, Hy.out⟩, (by repeat (first | exact Below.refl _ _ | refine below_drewN ?_ _ | refine Below.drew ?_ | refine Below.setCell ?_ (by simp; try omega) _ | refine Below.alloc ?_ (by simp; try omega) _))⟩
      · have qr := inN hr
        have Hno := hid (show wordC s = none by rw [Hw.out, hd.out, Nat.sub_self]; show (if 2 ≤ m ∧ m ≤ 500 then _ else _) = _; rw [if_neg (by omega)])
        go_wp2_with (first | (go_at_call 24; refine (spec_l1In _ _ _ _).mono ?_; rintro e w' ⟨rfl, rfl⟩))
        go_region_with (first | (go_at_call 24; refine (spec_l1In _ _ _ _).mono ?_; rintro e w' ⟨rfl, rfl⟩))
        all_goals go_wp2
        all_goals exact bodyPost_ret (v := .tuple #[.agg #[.int .i64 ((bt s 0 : Int) - 48), .int .i64 m], .bool false]) (by simp [results, Tryd.results21, go_sem]) rfl ⟨⟨⟨(bt s 0 : Int) - 48, m⟩, false, rfl, Hno.out⟩, (by repeat (first | exact Below.refl _ _ | refine below_drewN ?_ _ | refine Below.drew ?_ | refine Below.setCell ?_ (by simp; try omega) _ | refine Below.alloc ?_ (by simp; try omega) _))⟩
end Go.Proofs.YtjcoakgdhiiiaaaDoor
