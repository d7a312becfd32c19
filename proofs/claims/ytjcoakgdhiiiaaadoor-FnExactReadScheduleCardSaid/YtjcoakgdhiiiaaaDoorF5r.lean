/- Chapter 5: a word tells a run where it is what is written of that run, and nowhere else. -/
import Derived.Test.YtjcoakgdhiiiaaaDoorS5c
import Derived.Test.YtjcoakgdhiiiaaaDoorS5g
import Derived.Lib.IndexMore
import Derived.Lib.IndexBytes
import Derived.Lib.AtoiAllCases
namespace Go.Proofs.YtjcoakgdhiiiaaaDoor
set_option maxRecDepth 100000
open Go.RowKit Go.Proofs Go.Own
set_option linter.unusedVariables false
set_option linter.unusedSimpArgs false
/-- What is written of a run. -/
def runS (r : Run) : ByteArray := if 1 < r.many_ then digS r.thread_.toNat ++ (starB ++ digS r.many_.toNat) else digS r.thread_.toNat
/-- The number that Atoi tells, beside an error or none. -/
noncomputable def atoiV (l : List UInt8) : Int := Lib.NumEnd.casesOn (motive := fun _ => Int) (Lib.atoiAll l) (fun v => v) 0 (Lib.atoiSat l)
noncomputable def runP (s : ByteArray) : Run := ⟨atoiV (Lib.cut s.data.toList [42]).1, if (Lib.cut s.data.toList [42]).2.2 = true then atoiV (Lib.cut s.data.toList [42]).2.1 else 1⟩
def dg (n : Nat) : UInt8 := UInt8.ofNat (48 + n)
theorem dg_toNat {n : Nat} (h : n < 10) : (dg n).toNat = 48 + n := by unfold dg; rw [UInt8.toNat_ofNat']; omega
theorem dg_of {a : UInt8} (h : 48 ≤ a.toNat) : dg (a.toNat - 48) = a := by
  unfold dg
  rw [show 48 + (a.toNat - 48) = a.toNat by omega]
  exact UInt8.ofNat_toNat
theorem dec1 {n : Nat} (h : n < 10) : Lib.decDigits n = [dg n] := dig1 n h
theorem dec2 {n : Nat} (h : 10 ≤ n) (h2 : n < 100) : Lib.decDigits n = [dg (n / 10), dg (n % 10)] := by
  rw [Lib.decDigits, dif_neg (by omega), dec1 (by omega)]; rfl
theorem dec3 {n : Nat} (h : 100 ≤ n) (h2 : n < 1000) : Lib.decDigits n = [dg (n / 100), dg (n / 10 % 10), dg (n % 10)] := by
  rw [Lib.decDigits, dif_neg (by omega), dec2 (by omega) (by omega), show n / 10 / 10 = n / 100 by omega]; rfl
def BA (l : List UInt8) : ByteArray := ⟨l.toArray⟩
theorem BA_size (l : List UInt8) : (BA l).size = l.length := rfl
theorem BA_data (l : List UInt8) : (BA l).data.toList = l := rfl
theorem BA_eta (s : ByteArray) : BA s.data.toList = s := rfl
theorem BA_app (a b : List UInt8) : BA a ++ BA b = BA (a ++ b) := by
  apply ByteArray.ext
  simp [BA]
theorem bt_BA (l : List UInt8) (i : Nat) : bt (BA l) i = (l[i]?.map UInt8.toNat).getD 0 := by
  unfold bt
  split
  · rename_i h
    rw [BA_size] at h
    rw [List.getElem?_eq_getElem h]
    rfl
  · rename_i h
    rw [BA_size] at h
    rw [List.getElem?_eq_none (by omega)]
    rfl
theorem digS_BA (n : Nat) : digS n = BA (Lib.decDigits n) := rfl
theorem star_BA : starB = BA [42] := rfl
theorem runS_one {r : Run} (h : r.many_ = 1) (ht : r.thread_.toNat < 10) : runS r = BA [dg r.thread_.toNat] := by
  unfold runS
  rw [if_neg (by omega), digS_BA, dec1 ht]
theorem runS_more {r : Run} (h : 1 < r.many_) (ht : r.thread_.toNat < 10) : runS r = BA (dg r.thread_.toNat :: 42 :: Lib.decDigits r.many_.toNat) := by
  unfold runS
  rw [if_pos h, digS_BA, dec1 ht, star_BA, digS_BA, BA_app, BA_app]
  rfl
theorem decs {n : Nat} (h1 : 1 ≤ n) (h : n < 1000) : (n < 10 ∧ Lib.decDigits n = [dg n]) ∨ (10 ≤ n ∧ n < 100 ∧ Lib.decDigits n = [dg (n / 10), dg (n % 10)]) ∨ (100 ≤ n ∧ Lib.decDigits n = [dg (n / 100), dg (n / 10 % 10), dg (n % 10)]) := by
  by_cases a : n < 10
  · exact .inl ⟨a, dec1 a⟩
  · by_cases b : n < 100
    · exact .inr (.inl ⟨by omega, b, dec2 (by omega) b⟩)
    · exact .inr (.inr ⟨by omega, dec3 (by omega) h⟩)
/-- What is written of a run that is right is read as that run. -/
theorem word_of_run {t m : Nat} (ht : t ≤ 3) (hm : 1 ≤ m) (hm2 : m ≤ 500) : wordC (runS ⟨t, m⟩) = some ⟨t, m⟩ := by
  have t0 := dg_toNat (n := t) (by omega)
  by_cases h1 : m = 1
  · subst h1
    rw [runS_one rfl (by simp; omega)]
    simp [wordC, BA_size, bt_BA, t0]
    omega
  · rw [runS_more (by simp; omega) (by simp; omega)]
    simp only [Int.toNat_natCast]
    rcases decs hm (by omega) with ⟨a, e⟩ | ⟨a, b, e⟩ | ⟨a, e⟩
    · have d0 := dg_toNat (n := m) (by omega)
      rw [e]
      unfold wordC
      simp only [BA_size, bt_BA, List.length_cons, List.length_nil, List.getElem?_cons_zero, List.getElem?_cons_succ, Option.map_some, Option.getD_some, t0]
      rw [if_neg (by omega), if_neg (by omega), if_neg (by omega), if_neg (by omega), if_neg (by decide), if_neg (by rw [d0]; omega)]
      simp only [digits, bt_BA, List.getElem?_cons_zero, List.getElem?_cons_succ, Option.map_some, Option.getD_some, d0]
      rw [if_pos (by omega)]
      show (if _ then _ else _) = _
      rw [if_pos (by omega)]
      congr 2 <;> omega
    · have d0 := dg_toNat (n := m / 10) (by omega)
      have d1 := dg_toNat (n := m % 10) (by omega)
      rw [e]
      unfold wordC
      simp only [BA_size, bt_BA, List.length_cons, List.length_nil, List.getElem?_cons_zero, List.getElem?_cons_succ, Option.map_some, Option.getD_some, t0]
      rw [if_neg (by omega), if_neg (by omega), if_neg (by omega), if_neg (by omega), if_neg (by decide), if_neg (by rw [d0]; omega)]
      simp only [digits, bt_BA, List.getElem?_cons_zero, List.getElem?_cons_succ, Option.map_some, Option.getD_some, d0, d1]
      rw [if_pos (by omega), if_pos (by omega)]
      show (if _ then _ else _) = _
      rw [if_pos (by omega)]
      congr 2 <;> omega
    · have d0 := dg_toNat (n := m / 100) (by omega)
      have d1 := dg_toNat (n := m / 10 % 10) (by omega)
      have d2 := dg_toNat (n := m % 10) (by omega)
      rw [e]
      unfold wordC
      simp only [BA_size, bt_BA, List.length_cons, List.length_nil, List.getElem?_cons_zero, List.getElem?_cons_succ, Option.map_some, Option.getD_some, t0]
      rw [if_neg (by omega), if_neg (by omega), if_neg (by omega), if_neg (by omega), if_neg (by decide), if_neg (by rw [d0]; omega)]
      simp only [digits, bt_BA, List.getElem?_cons_zero, List.getElem?_cons_succ, Option.map_some, Option.getD_some, d0, d1, d2]
      rw [if_pos (by omega), if_pos (by omega), if_pos (by omega)]
      show (if _ then _ else _) = _
      rw [if_pos (by omega)]
      congr 2 <;> omega
/-- Who reads a word as a run has what is written of that run before him. -/
theorem run_of_word {s : ByteArray} {r : Run} (h : wordC s = some r) : (0 ≤ r.thread_ ∧ r.thread_ ≤ 3) ∧ (1 ≤ r.many_ ∧ r.many_ ≤ 500) ∧ s = runS r := by
  obtain ⟨l, rfl⟩ : ∃ l, s = BA l := ⟨s.data.toList, (BA_eta s).symm⟩
  unfold wordC at h
  split at h; · cases h
  split at h; · cases h
  rename_i h0 h4
  split at h
  · rename_i h1
    cases h
    rw [BA_size] at h1
    obtain ⟨a, rfl⟩ : ∃ a, l = [a] := by
      match l, h1 with
      | [a], _ => exact ⟨a, rfl⟩
    simp only [bt_BA, List.getElem?_cons_zero, Option.map_some, Option.getD_some] at h4 ⊢
    refine ⟨by omega, by omega, ?_⟩
    rw [runS_one rfl (by simp only; omega)]
    simp only
    rw [show ((a.toNat : Int) - 48).toNat = a.toNat - 48 by omega, dg_of (by omega)]
  split at h; · cases h
  split at h; · cases h
  split at h; · cases h
  rename_i h35 hst h2
  have h35' := Decidable.not_not.1 h35
  rw [BA_size] at h35'
  have fin : ∀ (a c : UInt8) (m : Nat) (ds : List UInt8), 48 ≤ a.toNat → a.toNat ≤ 51 → 2 ≤ m → Lib.decDigits m = ds → BA (a :: 42 :: ds) = runS ⟨(a.toNat : Int) - 48, (m : Int)⟩ := fun a c m ds ha ha2 hm e => by
    rw [runS_more (by simp only; omega) (by simp only; omega)]
    simp only [Int.toNat_natCast]
    rw [e, show ((a.toNat : Int) - 48).toNat = a.toNat - 48 by omega, dg_of ha]
  have hb : ∀ (b : UInt8), ¬ (b.toNat ≠ 42) → b = 42 := fun b hb => UInt8.toNat_inj.1 (by simpa using Decidable.not_not.1 hb)
  rw [BA_size] at h
  match l, h35' with
  | [a, b, c], _ =>
    simp only [digits, bt_BA, List.length_cons, List.length_nil, List.getElem?_cons_zero, List.getElem?_cons_succ, Option.map_some, Option.getD_some] at h h4 hst h2
    obtain rfl := hb b hst
    split at h
    · change (if _ then _ else _) = _ at h
      split at h
      · rename_i hc hn
        cases h
        refine ⟨by simp only; omega, by simp only; omega, fin a 0 _ _ (by omega) (by omega) hn.1 ?_⟩
        rw [dec1 (by omega), show 10 * 0 + (c.toNat - 48) = c.toNat - 48 by omega, dg_of (by omega)]
      · cases h
    · cases h
  | [a, b, c, d], _ =>
    simp only [digits, bt_BA, List.length_cons, List.length_nil, List.getElem?_cons_zero, List.getElem?_cons_succ, Option.map_some, Option.getD_some] at h h4 hst h2
    obtain rfl := hb b hst
    split at h
    · split at h
      · change (if _ then _ else _) = _ at h
        split at h
        · rename_i hc hd hn
          cases h
          refine ⟨by simp only; omega, by simp only; omega, fin a 0 _ _ (by omega) (by omega) hn.1 ?_⟩
          rw [dec2 (by omega) (by omega), show (10 * (10 * 0 + (c.toNat - 48)) + (d.toNat - 48)) / 10 = c.toNat - 48 by omega, show (10 * (10 * 0 + (c.toNat - 48)) + (d.toNat - 48)) % 10 = d.toNat - 48 by omega, dg_of (by omega), dg_of (by omega)]
        · cases h
      · cases h
    · cases h
  | [a, b, c, d, e], _ =>
    simp only [digits, bt_BA, List.length_cons, List.length_nil, List.getElem?_cons_zero, List.getElem?_cons_succ, Option.map_some, Option.getD_some] at h h4 hst h2
    obtain rfl := hb b hst
    split at h
    · split at h
      · split at h
        · change (if _ then _ else _) = _ at h
          split at h
          · rename_i hc hd he hn
            cases h
            refine ⟨by simp only; omega, by simp only; omega, fin a 0 _ _ (by omega) (by omega) hn.1 ?_⟩
            rw [dec3 (by omega) (by omega), show (10 * (10 * (10 * 0 + (c.toNat - 48)) + (d.toNat - 48)) + (e.toNat - 48)) / 100 = c.toNat - 48 by omega, show (10 * (10 * (10 * 0 + (c.toNat - 48)) + (d.toNat - 48)) + (e.toNat - 48)) / 10 % 10 = d.toNat - 48 by omega, show (10 * (10 * (10 * 0 + (c.toNat - 48)) + (d.toNat - 48)) + (e.toNat - 48)) % 10 = e.toNat - 48 by omega, dg_of (by omega), dg_of (by omega), dg_of (by omega)]
          · cases h
        · cases h
      · cases h
    · cases h
theorem parse_dg {k acc : Nat} (r : List UInt8) (hk : k < 10) (ha : acc < 10000) : Lib.parseUint10 acc (dg k :: r) = Lib.parseUint10 (acc * 10 + k) r := by
  have d := dg_toNat hk
  rw [Lib.parseUint10, if_pos (by omega), if_neg (by omega), if_neg (by omega), d, show 48 + k - 48 = k by omega]
theorem atoi_of {k n : Nat} {r : List UInt8} (hk : k < 10) (hn : n < 1000) (h : Lib.parseUint10 0 (dg k :: r) = .ok n) : atoiV (dg k :: r) = n := by
  have d := dg_toNat hk
  have e : Lib.atoiAll (dg k :: r) = .ok (n : Int) := by
    rw [Lib.atoiAll_plain _ _ (by omega) (by omega)]
    unfold Lib.parseMag
    rw [if_neg (by simp), h]
    show (if 9223372036854775808 ≤ n then _ else _) = _
    rw [if_neg (by omega)]
  unfold atoiV
  rw [e]
theorem atoi_dec {n : Nat} (h : n < 1000) : atoiV (Lib.decDigits n) = n := by
  by_cases h10 : n < 10
  · rw [dec1 h10]
    apply atoi_of h10 h
    rw [parse_dg _ h10 (by omega)]
    simp [Lib.parseUint10]
  · by_cases h100 : n < 100
    · rw [dec2 (by omega) h100]
      apply atoi_of (by omega) h
      rw [parse_dg _ (by omega) (by omega), parse_dg _ (by omega) (by omega)]
      simp only [Lib.parseUint10, Lib.NumEnd.ok.injEq]
      omega
    · rw [dec3 (by omega) h]
      apply atoi_of (by omega) h
      rw [parse_dg _ (by omega) (by omega), parse_dg _ (by omega) (by omega), parse_dg _ (by omega) (by omega)]
      simp only [Lib.parseUint10, Lib.NumEnd.ok.injEq]
      omega
theorem dg_ne {n : Nat} (h : n < 10) : (dg n == 42) = false := by
  rw [beq_eq_false_iff_ne]
  intro e
  have := congrArg UInt8.toNat e
  rw [dg_toNat h] at this
  simp at this
  omega
theorem runP_runS {t m : Nat} (ht : t ≤ 3) (hm : 1 ≤ m) (hm2 : m ≤ 500) : runP (runS ⟨t, m⟩) = ⟨t, m⟩ := by
  have e0 := dec1 (n := t) (by omega)
  by_cases h1 : m = 1
  · subst h1
    rw [runS_one rfl (by simp; omega)]
    unfold runP
    rw [BA_data]
    have ec : Lib.cut [dg t] [42] = ([dg t], [], false) := by
      unfold Lib.cut
      rw [Lib.index_one]
      simp [Lib.indexByte, dg_ne (n := t) (by omega)]
    simp only [Int.toNat_natCast]
    rw [ec, ← e0, atoi_dec (by omega)]
    rfl
  · rw [runS_more (by simp; omega) (by simp; omega)]
    unfold runP
    rw [BA_data]
    simp only [Int.toNat_natCast]
    have ec : ∀ l, Lib.cut (dg t :: 42 :: l) [42] = ([dg t], l, true) := fun l => by
      unfold Lib.cut
      rw [Lib.index_one]
      simp [Lib.indexByte, dg_ne (n := t) (by omega)]
    rw [ec, ← e0, atoi_dec (by omega), atoi_dec (by omega)]
    rfl
/-- THE WORD, AS THE PROGRAM READS IT. -/
theorem wordP (s : ByteArray) : wordC s = if runOk (runP s) = true ∧ runS (runP s) = s then some (runP s) else none := by
  by_cases h : runOk (runP s) = true ∧ runS (runP s) = s
  · rw [if_pos h]
    obtain ⟨⟨a0, a1⟩, b0, b1⟩ := runOk_all h.1
    obtain ⟨t, e0⟩ := Int.eq_ofNat_of_zero_le a0
    obtain ⟨m, e1⟩ := Int.eq_ofNat_of_zero_le (by omega : 0 ≤ (runP s).many_)
    have e : runP s = ⟨t, m⟩ := by
      cases hr : runP s with
      | mk x y => rw [hr] at e0 e1; simp only at e0 e1; subst e0; subst e1; rfl
    have hs := h.2
    rw [e] at hs ⊢
    rw [← hs]
    exact word_of_run (by omega) (by omega) (by omega)
  · rw [if_neg h]
    cases hw : wordC s with
    | none => rfl
    | some r =>
      exfalso
      obtain ⟨⟨a0, a1⟩, ⟨b0, b1⟩, hs⟩ := run_of_word hw
      obtain ⟨x, y⟩ := r
      obtain ⟨t, rfl⟩ := Int.eq_ofNat_of_zero_le a0
      obtain ⟨m, rfl⟩ := Int.eq_ofNat_of_zero_le (show 0 ≤ y by simp only at b0; omega)
      simp only at a0 a1 b0 b1
      apply h
      rw [hs, runP_runS (by omega) (by omega) (by omega)]
      refine ⟨?_, rfl⟩
      simp only [runOk, inB, Bool.and_eq_true, decide_eq_true_eq]
      omega
end Go.Proofs.YtjcoakgdhiiiaaaDoor
