/- Chapter 14: rings, what they are and what is done with them. -/
import Derived.Test.YtilbmclhnlkkmaaF0
namespace Go.Proofs.Ytilbmclhnlkkmaa
set_option maxRecDepth 100000
open Go.RowKit Go.Proofs Go.Own
set_option linter.unusedVariables false
structure RingD where
  cells_ : List Int
  from_ : Int
  many_ : Int
def idx8 (f : Int) (i : Nat) : Nat := (f.toNat + i) % 8
def rAt (L : List Int) (p : Nat) : Int := L.getD p 0
def ringCell (L : List Int) (f m : Int) (i : Nat) : Bool := match decide ((i : Int) < m) with | true => isVal (rAt L (idx8 f i)) | false => rAt L (idx8 f i) == 0
/-- The cells from place k on (n of them) are so. -/
def ringFrom (L : List Int) (f m : Int) : Nat → Nat → Bool
  | 0, _ => true
  | n+1, k => ringCell L f m k && ringFrom L f m n (k+1)
def ringOk (r : RingD) : Bool := inB r.from_ 0 7 && inB r.many_ 0 8 && ringFrom r.cells_ r.from_ r.many_ 8 0
theorem ringFrom_iff (L : List Int) (f m : Int) : ∀ (n k : Nat), ringFrom L f m n k = true ↔ ∀ i, k ≤ i → i < k + n → ringCell L f m i = true
  | 0, k => by simp [ringFrom]; intro i h1 h2; omega
  | n+1, k => by
    simp only [ringFrom, Bool.and_eq_true, ringFrom_iff L f m n (k+1)]
    constructor
    · rintro ⟨h1, h2⟩ i h3 h4
      by_cases h : i = k
      · exact h ▸ h1
      · exact h2 i (by omega) (by omega)
    · exact fun h => ⟨h k (by omega) (by omega), fun i h1 h2 => h i (by omega) (by omega)⟩
theorem ringOk_iff (r : RingD) : ringOk r = true ↔ (0 ≤ r.from_ ∧ r.from_ ≤ 7) ∧ (0 ≤ r.many_ ∧ r.many_ ≤ 8) ∧ ∀ i, i < 8 → ringCell r.cells_ r.from_ r.many_ i = true := by
  unfold ringOk
  simp only [Bool.and_eq_true, ringFrom_iff]
  simp [inB]
  constructor
  · rintro ⟨⟨a, b⟩, c⟩; exact ⟨a, b, c⟩
  · rintro ⟨a, b, c⟩; exact ⟨⟨a, b⟩, c⟩
theorem idx8_lt (f : Int) (i : Nat) : idx8 f i < 8 := Nat.mod_lt _ (by decide)
theorem rAt_set_self (L : List Int) (p : Nat) (v : Int) (h : p < L.length) : rAt (L.set p v) p = v := by simp [rAt, List.getD_eq_getElem?_getD, h]
theorem rAt_set_ne (L : List Int) (p q : Nat) (v : Int) (h : p ≠ q) : rAt (L.set p v) q = rAt L q := by simp [rAt, List.getD_eq_getElem?_getD, h]
/-- The oldest taken. -/
def takeR (r : RingD) : RingD := ⟨r.cells_.set (idx8 r.from_ 0) 0, (r.from_ + 1) % 8, r.many_ - 1⟩
def takeC (r : RingD) : RingD × Int × Int := if ringOk r = true then if r.many_ = 0 then (r, 0, 3) else (takeR r, rAt r.cells_ (idx8 r.from_ 0), 0) else (r, 0, 1)
/-- A value put behind the others. -/
def putR (r : RingD) (v : Int) : RingD := ⟨r.cells_.set (idx8 r.from_ r.many_.toNat) v, r.from_, r.many_ + 1⟩
def ringPutC (r : RingD) (v : Int) : RingD × Int := if (ringOk r && isVal v) = true then if r.many_ = 8 then (r, 2) else (putR r v, 0) else (r, 1)
theorem takeR_ok {r : RingD} (h : ringOk r = true) (hL : r.cells_.length = 8) (hm : r.many_ ≠ 0) : ringOk (takeR r) = true := by
  rw [ringOk_iff] at h ⊢
  obtain ⟨⟨f0, f7⟩, ⟨m0, m8⟩, hc⟩ := h
  obtain ⟨L, f, m⟩ := r
  dsimp only [takeR] at *
  refine ⟨⟨Int.emod_nonneg _ (by decide), by have := Int.emod_lt_of_pos (f + 1) (show (0 : Int) < 8 by decide); omega⟩, by omega, fun i hi => ?_⟩
  have hid : idx8 ((f + 1) % 8) i = idx8 f (i + 1) := by unfold idx8; omega
  have h0 : idx8 f 0 = f.toNat := by unfold idx8; omega
  by_cases h7 : i = 7
  · subst h7
    have e : idx8 f (7 + 1) = idx8 f 0 := by unfold idx8; omega
    unfold ringCell
    rw [show decide (((7 : Nat) : Int) < m - 1) = false from decide_eq_false (by omega)]
    dsimp only
    rw [hid, e, rAt_set_self _ _ _ (by rw [hL]; exact idx8_lt _ _)]; rfl
  · have z := hc (i + 1) (by omega)
    unfold ringCell at z ⊢
    rw [hid, rAt_set_ne _ _ _ _ (by unfold idx8; omega)]
    have e : decide ((i : Int) < m - 1) = decide (((i + 1 : Nat) : Int) < m) := by
      rw [Bool.eq_iff_iff]; simp; omega
    rw [e]; exact z
theorem putR_ok {r : RingD} (h : ringOk r = true) (hL : r.cells_.length = 8) (hm : r.many_ ≠ 8) {v : Int} (hv : isVal v = true) : ringOk (putR r v) = true := by
  rw [ringOk_iff] at h ⊢
  obtain ⟨⟨f0, f7⟩, ⟨m0, m8⟩, hc⟩ := h
  obtain ⟨L, f, m⟩ := r
  dsimp only [putR] at *
  refine ⟨⟨f0, f7⟩, by omega, fun i hi => ?_⟩
  have z := hc i hi
  unfold ringCell at z ⊢
  by_cases him : (i : Int) = m
  · have e : m.toNat = i := by omega
    rw [show decide ((i : Int) < m + 1) = true from decide_eq_true (by omega)]
    dsimp only
    rw [e, rAt_set_self _ _ _ (by rw [hL]; exact idx8_lt _ _)]; exact hv
  · rw [rAt_set_ne _ _ _ _ (by unfold idx8; omega)]
    have e : decide ((i : Int) < m + 1) = decide ((i : Int) < m) := by
      rw [Bool.eq_iff_iff]; simp; omega
    rw [e]; exact z
theorem takeR_len {r : RingD} (hL : r.cells_.length = 8) : (takeR r).cells_.length = 8 := by simp [takeR, hL]
theorem putR_len {r : RingD} (hL : r.cells_.length = 8) (v : Int) : (putR r v).cells_.length = 8 := by simp [putR, hL]
/-- What is taken of a ring that is so is a value. -/
theorem take_val {r : RingD} (h : ringOk r = true) (hm : r.many_ ≠ 0) : isVal (rAt r.cells_ (idx8 r.from_ 0)) = true := by
  rw [ringOk_iff] at h
  have z := h.2.2 0 (by decide)
  unfold ringCell at z
  rw [show decide (((0 : Nat) : Int) < r.many_) = true from decide_eq_true (by have := h.2.1; omega)] at z
  exact z
def listTo (r : RingD) (n : Nat) : List Int := (List.range n).map fun i => rAt r.cells_ (idx8 r.from_ i)
def listC14 (r : RingD) : List Int := if ringOk r = true then listTo r r.many_.toNat else []
theorem listTo_succ (r : RingD) (n : Nat) : listTo r (n+1) = listTo r n ++ [rAt r.cells_ (idx8 r.from_ n)] := by simp [listTo, List.range_succ]
def moveN : Nat → RingD → RingD → RingD × RingD
  | 0, a, b => (a, b)
  | n+1, a, b => moveN n (takeR a) (putR b (rAt a.cells_ (idx8 a.from_ 0)))
def moveC (a b : RingD) (n : Int) : RingD × RingD × Int :=
  if (ringOk a && ringOk b && inB n 0 8) = true then
    if a.many_ < n then (a, b, 3) else if 8 < b.many_ + n then (a, b, 2) else ((moveN n.toNat a b).1, (moveN n.toNat a b).2, 0)
  else (a, b, 1)
def turnN : Nat → RingD → RingD
  | 0, r => r
  | n+1, r => if 0 < r.many_ then turnN n (putR (takeR r) (rAt r.cells_ (idx8 r.from_ 0))) else r
def turnC14 (r : RingD) (by_ : Int) : RingD × Int := if (ringOk r && inB by_ 0 1000) = true then (turnN by_.toNat r, 0) else (r, 1)
end Go.Proofs.Ytilbmclhnlkkmaa
