/- Chapter 9's model: a number's text read. -/
import Derived.Test.YtikiaffgjpddeaaDoorS9
import Derived.Test.YtikiaffgjpddeaaDoorF9t
import Derived.Deep.Cut
import Derived.Deep.CutRange
import Derived.IntWalk
namespace Go.Proofs.YtikiaffgjpddeaaDoor
set_option maxRecDepth 100000
open Go.RowKit Go.Proofs Go.Own
set_option linter.unusedVariables false
set_option linter.unusedSimpArgs false
theorem inY {x a b : Int} (h : a ≤ x ∧ x ≤ b) : inB x a b = true := by simp [inB, h]
theorem inN {x a b : Int} (h : ¬ (a ≤ x ∧ x ≤ b)) : inB x a b = false := by simp [inB]; omega
/-- A text's byte. -/
def bt (s : ByteArray) (i : Nat) : Nat := if h : i < s.size then (s[i]'h).toNat else 0
theorem bt_eq {s : ByteArray} {i : Nat} (h : i < s.size) : (s[i]'h).toNat = bt s i := by unfold bt; rw [dif_pos h]
theorem bt_lt (s : ByteArray) (i : Nat) : bt s i ≤ 255 := by
  unfold bt; split
  · have := UInt8.toNat_lt (s[i]'(by assumption)); omega
  · omega
theorem bt_get {l : List UInt8} {i : Nat} {c : UInt8} (h : l[i]? = some c) : bt (BA l) i = c.toNat := by
  obtain ⟨hi, e⟩ := List.getElem?_eq_some_iff.1 h
  unfold bt
  rw [dif_pos (by rw [BA_size]; exact hi)]
  have : (BA l)[i]'(by rw [BA_size]; exact hi) = l[i] := by
    show (BA l).data[i] = l[i]
    simp [BA]
  rw [this, e]
/-- What is said of a number read of a text. -/
def NumR (s : ByteArray) (v : Int) : Prop := NumOk s.data.toList v ∧ -100000000000 ≤ v ∧ v ≤ 100000000000
theorem numR_zero {s : ByteArray} (h : ∀ x : Int, (-1000000000 ≤ x ∧ x ≤ 1000000000) → s.data.toList = Lib.itoa x → x = 0) : NumR s 0 :=
  ⟨⟨fun _ => rfl, fun x hx e => (h x hx e).symm⟩, by decide, by decide⟩
/-- The text behind a sign. -/
def unsigned (s : ByteArray) : ByteArray := if 0 < s.size ∧ bt s 0 = 45 then BA (s.data.toList.drop 1) else s
def signOf (s : ByteArray) : Int := if 0 < s.size ∧ bt s 0 = 45 then -1 else 1
theorem num_form {s : ByteArray} {x : Int} (hx : -1000000000 ≤ x ∧ x ≤ 1000000000) (h : s.data.toList = Lib.itoa x) (h0 : s ≠ BA [48]) :
    1 ≤ (unsigned s).size ∧ (unsigned s).size ≤ 10 ∧ bt (unsigned s) 0 ≠ 48 ∧ (∀ i, i < (unsigned s).size → 48 ≤ bt (unsigned s) i ∧ bt (unsigned s) i ≤ 57) ∧ signOf s * (valD 0 (unsigned s).data.toList : Int) = x := by
  obtain ⟨l, rfl⟩ : ∃ l, s = BA l := ⟨s.data.toList, (BA_eta s).symm⟩
  rw [BA_data] at h
  rcases itoa_form hx h with ⟨_, e⟩ | ⟨c, r, e, h1, hd, h10, hv, hn⟩ | ⟨c, r, e, h1, hd, h10, hv⟩
  · exact absurd (by rw [e]) h0
  · subst e
    have hb : bt (BA (c :: r)) 0 = c.toNat := bt_get rfl
    have hu : unsigned (BA (c :: r)) = BA (c :: r) := by unfold unsigned; rw [if_neg (by rw [hb]; have := hd c (by simp); omega)]
    have hs : signOf (BA (c :: r)) = 1 := by unfold signOf; rw [if_neg (by rw [hb]; have := hd c (by simp); omega)]
    rw [hu, hs]
    refine ⟨by rw [BA_size]; simp, by rw [BA_size]; exact h10, by rw [hb]; omega, fun i hi => ?_, by rw [BA_data, Int.one_mul]; exact hv⟩
    rw [BA_size] at hi
    rw [bt_get (List.getElem?_eq_getElem hi)]
    exact hd _ (List.getElem_mem hi)
  · subst e
    have hb : bt (BA (45 :: c :: r)) 0 = 45 := bt_get (c := 45) rfl
    have hc : 0 < (BA (45 :: c :: r)).size ∧ bt (BA (45 :: c :: r)) 0 = 45 := ⟨by rw [BA_size]; simp, hb⟩
    have hu : unsigned (BA (45 :: c :: r)) = BA (c :: r) := by unfold unsigned; rw [if_pos hc]; rfl
    have hs : signOf (BA (45 :: c :: r)) = -1 := by unfold signOf; rw [if_pos hc]
    rw [hu, hs]
    have hb2 : bt (BA (c :: r)) 0 = c.toNat := bt_get rfl
    refine ⟨by rw [BA_size]; simp, by rw [BA_size]; exact h10, by rw [hb2]; omega, fun i hi => ?_, by rw [BA_data]; omega⟩
    rw [BA_size] at hi
    rw [bt_get (List.getElem?_eq_getElem hi)]
    exact hd _ (List.getElem_mem hi)
theorem ext_BA (s : ByteArray) (a b : Nat) : s.extract a b = BA ((s.data.toList.take b).drop a) := by
  apply ByteArray.ext
  rw [ByteArray.data_extract]
  apply Array.ext'
  simp [BA, List.drop_take]
theorem unsigned_size (s : ByteArray) : (unsigned s).size ≤ s.size := by
  unfold unsigned; split
  · rw [BA_size, List.length_drop]; show s.size - 1 ≤ s.size; omega
  · exact Nat.le_refl _
theorem signOf_or (s : ByteArray) : signOf s = 1 ∨ signOf s = -1 := by unfold signOf; split; exact .inr rfl; exact .inl rfl
theorem unsigned_nil {s : ByteArray} (h : s.data.toList = []) : (unsigned s).size = 0 := by
  have := unsigned_size s
  have h2 : s.size = 0 := by show s.data.size = 0; rw [← Array.length_toList, h]; rfl
  omega
theorem valD_take {l : List UInt8} {k : Nat} (h : k < l.length) : valD 0 (l.take (k+1)) = 10 * valD 0 (l.take k) + (l[k].toNat - 48) := by
  rw [List.take_succ_eq_append_getElem h, valD_snoc]
theorem bt_list (s : ByteArray) (k : Nat) (h : k < s.data.toList.length) : (s.data.toList[k]).toNat = bt s k := by
  have := bt_get (l := s.data.toList) (List.getElem?_eq_getElem h)
  rw [BA_eta] at this; exact this.symm
set_option maxHeartbeats 8000000 in
theorem spec_l1Number (s : ByteArray) (w : World) (hs : s.size ≤ 1000) :
    Calls Tryd.prog 23 #[.string s] w fun e w' => ∃ (v : Int) (b : Bool), e = .returned (.tuple #[.int .i64 v, .bool b]) ∧ NumR s v ∧ Below w.heap.size w w' := by
  cases hz : (s.toList == [48]) with
  | true =>
    have hz2 : s = BA [48] := by
      have h1 : s.toList = [48] := by simpa using hz
      rw [ByteArray.toList_eq] at h1
      rw [← BA_eta s, h1]
    have HR : Hid (NumR s 0) := hid (numR_zero (fun x hx e => by
      rcases itoa_form hx e with ⟨e0, _⟩ | ⟨c, r, e2, h1, _⟩ | ⟨c, r, e2, h1, _⟩
      · exact e0
      · rw [hz2, BA_data] at e2
        obtain rfl := (List.cons.inj e2).1
        exact absurd h1 (by decide)
      · rw [hz2, BA_data] at e2
        exact absurd (List.cons.inj e2).1 (by decide)))
    clear hz2
    go_enter Tryd.func23, Tryd.ntmps23
    go_wp2_with (first | (go_at_call 33; refine (spec_l1In _ _ _ _).mono ?_; rintro e w' ⟨rfl, rfl⟩))
    go_ret2
    exact ⟨0, true, rfl, HR.out, Below.refl _ _⟩
  | false =>
    have hne : s ≠ BA [48] := by
      intro e
      rw [e] at hz
      rw [ByteArray.toList_eq] at hz
      exact absurd hz (by decide)
    have HF := hid (fun x hx e => num_form (s := s) (x := x) hx e hne)
    clear hne
    go_enter Tryd.func23, Tryd.ntmps23
    obtain ⟨q, hq⟩ : ∃ q, decide (0 < s.size ∧ bt s 0 = 45) = q := ⟨_, rfl⟩
    have Hq := hid hq
    clear hq
    go_upto_region 4 with fail
    go_cut [16] from 9 to 15 (fun t wx => t = .bool q ∧ wx = w)
    case first =>
      by_cases l0 : (0 : Int) < (s.size : Int)
      · have l0' : 0 < s.size := by omega
        have b0 := bt_eq l0'
        have hb : ((bt s 0 : Int) == 45) = q := by
          rw [← Hq.out]
          by_cases h9 : bt s 0 = 45
          · rw [decide_eq_true (show 0 < s.size ∧ bt s 0 = 45 from ⟨l0', h9⟩), h9]; rfl
          · rw [decide_eq_false (show ¬ (0 < s.size ∧ bt s 0 = 45) from fun h => h9 h.2)]
            exact beq_eq_false_iff_ne.mpr (by omega)
        go_wp2
        all_goals go_meet
        all_goals first | exact ⟨rfl, rfl⟩ | exact ⟨by rw [hb], rfl⟩
      · have hb := hid (show q = false by
          rw [← Hq.out]; exact decide_eq_false (fun h => l0 (by omega)))
        go_wp2
        all_goals go_meet
        all_goals exact ⟨by rw [hb.out], rfl⟩
    case rest =>
    obtain ⟨rfl, rfl⟩ := hcut
    go_upto_if 16 with fail
    go_cut [0, 4] from 7 (fun t g wx => t = .string (unsigned s) ∧ g = .int .i64 (signOf s) ∧ wx = wc)
    case first =>
      cases q with
      | true =>
        have h2 := of_decide_eq_true Hq.out
        have e1 := hid (show unsigned s = BA (s.data.toList.drop 1) by unfold unsigned; rw [if_pos h2])
        have e2 := hid (show signOf s = -1 by unfold signOf; rw [if_pos h2])
        have l1 : (1 : Int) ≤ (s.size : Int) := by omega
        have l1' : 1 ≤ s.size := by omega
        go_wp2
        go_meet
        exact ⟨by rw [e1.out, ext_BA, List.take_of_length_le (show s.data.toList.length ≤ s.size from Nat.le_refl _)], by rw [e2.out], rfl⟩
      | false =>
        have h2 := of_decide_eq_false Hq.out
        have e1 := hid (show unsigned s = s by unfold unsigned; rw [if_neg h2])
        have e2 := hid (show signOf s = 1 by unfold signOf; rw [if_neg h2])
        go_wp2
        go_meet
        exact ⟨by rw [e1.out], by rw [e2.out], rfl⟩
    case rest =>
      obtain ⟨rfl, rfl, rfl⟩ := hcut
      have hus := unsigned_size s
      have hnil := hid (unsigned_nil (s := s))
      have hso := signOf_or s
      obtain ⟨T, hT⟩ : ∃ T, unsigned s = T := ⟨_, rfl⟩
      obtain ⟨G, hG⟩ : ∃ G, signOf s = G := ⟨_, rfl⟩
      rw [hT, hG] at HF
      rw [hT] at hus hnil
      rw [hG] at hso
      rw [hT, hG]
      have hNo : ∀ (h : ¬ (1 ≤ T.size ∧ T.size ≤ 10 ∧ bt T 0 ≠ 48 ∧ (∀ i, i < T.size → 48 ≤ bt T i ∧ bt T i ≤ 57))), NumR s 0 := fun h => numR_zero (fun x hx e => by
        obtain ⟨h1, h2, h3, h4, _⟩ := HF.out x hx e
        exact absurd ⟨h1, h2, h3, h4⟩ h)
      have HNo := hid hNo
      clear hNo hT hG Hq hz
      by_cases s1 : ¬ ((1 : Int) ≤ (T.size : Int) ∧ (T.size : Int) ≤ 10)
      · have q1 := inN s1
        have HR := hid (HNo.out (fun h => s1 (by omega)))
        go_wp2_with (first | (go_at_call 33; refine (spec_l1In _ _ _ _).mono ?_; rintro e w' ⟨rfl, rfl⟩))
        go_ret2
        exact ⟨0, false, rfl, HR.out, Below.refl _ _⟩
      have s1' := Decidable.not_not.1 s1
      have q1 := inY s1'
      have l1 : 0 < T.size := by omega
      have l1' : (0 : Int) < (T.size : Int) := by omega
      have b0 := bt_eq l1
      clear s1
      by_cases c0 : (bt T 0 : Int) = 48
      · have HR := hid (HNo.out (fun h => h.2.2.1 (by omega)))
        go_wp2_with (first | (go_at_call 33; refine (spec_l1In _ _ _ _).mono ?_; rintro e w' ⟨rfl, rfl⟩))
        go_ret2
        exact ⟨0, false, rfl, HR.out, Below.refl _ _⟩
      have z0 : ((bt T 0 : Int) == 48) = false := beq_eq_false_iff_ne.mpr c0
      go_wp2_with (first | (go_at_call 33; refine (spec_l1In _ _ _ _).mono ?_; rintro e w' ⟨rfl, rfl⟩))
      go_loopw [5, 6] (fun n i wr => ∃ J : Nat, J ≤ T.size ∧ i = .int .i64 J ∧ n = .int .i64 (valD 0 (T.data.toList.take J) : Int) ∧ Hid (∀ i, i < J → 48 ≤ bt T i ∧ bt T i ≤ 57) ∧ wr = wc) (fun _ i _ => T.size - (intOf i).toNat)
      case atStart => exact ⟨0, by omega, rfl, by simp [valD], hid (fun i hi => by omega), rfl⟩
      case round =>
        obtain ⟨J, hJ, rfl, rfl, hd, rfl⟩ := hrel
        have hlen : T.data.toList.length = T.size := rfl
        have hm9 : valD 0 (T.data.toList.take J) < 10 ^ 10 := by
          have h1 := valD_lt (T.data.toList.take J) (fun c hc => by
            obtain ⟨k, hk, rfl⟩ := List.getElem_of_mem hc
            rw [List.getElem_take, bt_list]
            exact hd.out k (by rw [List.length_take] at hk; omega))
          have h2 : 10 ^ (T.data.toList.take J).length ≤ 10 ^ 10 := Nat.pow_le_pow_right (by decide) (by rw [List.length_take]; omega)
          omega
        by_cases hlt : J < T.size
        · have hlt' : (J : Int) < (T.size : Int) := by omega
          have bk := bt_eq hlt
          have bku := bt_lt T J
          have hst := hid (valD_take (l := T.data.toList) (k := J) hlt)
          rw [bt_list] at hst
          obtain ⟨M, hM⟩ : ∃ M, valD 0 (T.data.toList.take J) = M := ⟨_, rfl⟩
          rw [hM] at hst hm9
          rw [hM]
          clear hM hlen
          have hm8 : (M : Int) ≤ 10000000000 := by omega
          have hm7 : (0 : Int) ≤ (M : Int) := by omega
          have hm6 : IntKind.i64.wrap (10 * (M : Int)) = 10 * (M : Int) := IntWalk.i64_in _ (by omega)
          by_cases dk : (48 : Int) ≤ (bt T J : Int) ∧ (bt T J : Int) ≤ 57
          · have qk := inY dk
            have dk1 := dk.1
            have dk2 := dk.2
            have hJd := hid (show ∀ i, i < J + 1 → 48 ≤ bt T i ∧ bt T i ≤ 57 from fun i hi => by
              by_cases e : i = J
              · subst e; omega
              · exact hd.out i (by omega))
            clear hm9 dk
            go_wp2_with (first | (go_at_call 33; refine (spec_l1In _ _ _ _).mono ?_; rintro e w' ⟨rfl, rfl⟩))
            go_roundw
            case rel => exact ⟨J + 1, by omega, by go_num, by rw [hst.out]; go_num, hJd, trivial⟩
            case measure => simp [intOf]; omega
          · have qk := inN dk
            have HR := hid (HNo.out (fun h => dk (by have := h.2.2.2 J hlt; omega)))
            go_wp2_with (first | (go_at_call 33; refine (spec_l1In _ _ _ _).mono ?_; rintro e w' ⟨rfl, rfl⟩))
            go_ret2
            exact ⟨0, false, rfl, HR.out, Below.refl _ _⟩
        · obtain rfl : J = T.size := by omega
          have hf : valD 0 (T.data.toList.take T.size) = valD 0 T.data.toList := by rw [List.take_of_length_le (show T.data.toList.length ≤ T.size from Nat.le_refl _)]
          rw [hf] at hm9
          rw [hf]
          obtain ⟨M, hM⟩ : ∃ M, valD 0 T.data.toList = M := ⟨_, rfl⟩
          rw [hM] at HF hm9
          rw [hM]
          have HR : Hid (NumR s (G * (M : Int))) := hid ⟨⟨fun h => by have := hnil.out h; omega, fun x hx e => (HF.out x hx e).2.2.2.2⟩, by rcases hso with e | e <;> rw [e] <;> omega, by rcases hso with e | e <;> rw [e] <;> omega⟩
          have hw : IntKind.i64.wrap (G * (M : Int)) = G * (M : Int) := IntWalk.i64_in _ (by rcases hso with e | e <;> rw [e] <;> omega)
          clear hM hf hm9 hlen hso
          go_wp2
          go_ret2
          exact ⟨G * (M : Int), true, rfl, HR.out, Below.refl _ _⟩
end Go.Proofs.YtikiaffgjpddeaaDoor
