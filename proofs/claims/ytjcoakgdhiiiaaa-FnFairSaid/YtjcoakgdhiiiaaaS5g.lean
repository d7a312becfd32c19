/- Chapter 5's model: ReadSchedule. -/
import Derived.Test.YtjcoakgdhiiiaaaS5f
namespace Go.Proofs.Ytjcoakgdhiiiaaa
set_option maxRecDepth 100000
open Go.RowKit Go.Proofs Go.Own
set_option linter.unusedVariables false
set_option linter.unusedSimpArgs false
/-- Where a word that begins at j ends: at a blank or the text's end. -/
def endFrom (s : ByteArray) : Nat → Nat → Nat
  | 0, j => j
  | f+1, j => if bt s j = 32 then j else endFrom s f (j+1)
def readFrom (s : ByteArray) : Nat → Nat → List Run → Int → List Run × Int × Int
  | 0, _, O, _ => (O, 0, 0)
  | f+1, A, O, T =>
    if A ≤ s.size then
      match wordC (s.extract A (endFrom s (s.size - A) A)) with
      | none => ([], 2, (A : Int))
      | some r => if O.length = 60 ∨ 1500 < T + r.many_ then ([], 3, (A : Int)) else readFrom s f (endFrom s (s.size - A) A + 1) (O ++ [r]) (T + r.many_)
    else (O, 0, 0)
def readC (s : ByteArray) : List Run × Int × Int := if 600 < s.size then ([], 1, 0) else if s.size = 0 then ([], 0, 0) else readFrom s (s.size + 1) 0 [] 0
theorem read_done (s : ByteArray) (f A : Nat) (O : List Run) (T : Int) (h : ¬ A ≤ s.size) : readFrom s f A O T = (O, 0, 0) := by
  cases f with
  | zero => rfl
  | succ f => exact if_neg h
theorem read_word {s : ByteArray} {f A E : Nat} {O : List Run} {T : Int} (h : A ≤ s.size) (hf : s.size + 1 ≤ A + f) (hE : endFrom s (s.size - A) A = E) (hw : wordC (s.extract A E) = none) : readFrom s f A O T = ([], 2, (A : Int)) := by
  obtain ⟨g, rfl⟩ : ∃ g, f = g + 1 := ⟨f - 1, by omega⟩
  show (if A ≤ s.size then _ else _) = _
  rw [if_pos h, hE, hw]
theorem read_many {s : ByteArray} {f A E : Nat} {O : List Run} {T : Int} {r : Run} (h : A ≤ s.size) (hf : s.size + 1 ≤ A + f) (hE : endFrom s (s.size - A) A = E) (hw : wordC (s.extract A E) = some r) (hm : O.length = 60 ∨ 1500 < T + r.many_) : readFrom s f A O T = ([], 3, (A : Int)) := by
  obtain ⟨g, rfl⟩ : ∃ g, f = g + 1 := ⟨f - 1, by omega⟩
  show (if A ≤ s.size then _ else _) = _
  rw [if_pos h, hE, hw]
  exact if_pos hm
theorem read_step {s : ByteArray} {f A E : Nat} {O : List Run} {T : Int} {r : Run} (h : A ≤ s.size) (hf : s.size + 1 ≤ A + f) (hE : endFrom s (s.size - A) A = E) (hw : wordC (s.extract A E) = some r) (hm : ¬ (O.length = 60 ∨ 1500 < T + r.many_)) : readFrom s f A O T = readFrom s (f - 1) (E + 1) (O ++ [r]) (T + r.many_) := by
  obtain ⟨g, rfl⟩ : ∃ g, f = g + 1 := ⟨f - 1, by omega⟩
  show (if A ≤ s.size then _ else _) = _
  rw [if_pos h, hE, hw]
  exact if_neg hm
theorem end_on {s : ByteArray} {E : Nat} (h : E < s.size) (hb : bt s E ≠ 32) : endFrom s (s.size - E) E = endFrom s (s.size - (E + 1)) (E + 1) := by
  rw [show s.size - E = (s.size - (E + 1)) + 1 by omega]
  exact if_neg hb
theorem end_blank {s : ByteArray} {E : Nat} (h : E < s.size) (hb : bt s E = 32) : endFrom s (s.size - E) E = E := by
  rw [show s.size - E = (s.size - (E + 1)) + 1 by omega]
  exact if_pos hb
theorem wordC_many {s : ByteArray} {r : Run} (h : wordC s = some r) : 1 ≤ r.many_ ∧ r.many_ ≤ 500 := by
  unfold wordC at h
  split at h; · cases h
  split at h; · cases h
  split at h
  · cases h; exact ⟨Int.le_refl 1, by simp⟩
  split at h; · cases h
  split at h; · cases h
  split at h; · cases h
  cases hd : digits s (s.size - 2) 2 0 with
  | none => rw [hd] at h; cases h
  | some n =>
    rw [hd] at h
    change (if 2 ≤ n ∧ n ≤ 500 then some _ else none) = some r at h
    split at h
    · cases h; simp only; omega
    · cases h
theorem infoRun5 : (Try.prog.info? 56).map (fun i => (i.zero, i.size, i.bytes)) = some (some (.agg #[.int .i64 0, .int .i64 0]), 2, 16) := by kernel_rfl
theorem encR_snoc (xs : List Run) (r : Run) : (xs ++ [r]).flatMap Run.enc = xs.flatMap Run.enc ++ [.int .i64 r.thread_, .int .i64 r.many_] := by simp [Run.enc]
def ReadR (N : Nat) (e : Ending) (w' : World) (x : List Run × Int × Int) : Prop := ∃ v' : Value, e = .returned (.tuple #[v', .int .i64 x.2.1, .int .i64 x.2.2]) ∧ w'.ownsRow N 56 2 v' x.1.length (x.1.flatMap Run.enc)
theorem readR_of {N : Nat} {e : Ending} {w' : World} {x : List Run × Int × Int} {L : List Run} {c p : Int} {v : Value} (hx : x = (L, c, p)) (he : e = .returned (.tuple #[v, .int .i64 c, .int .i64 p]))
    (ho : w'.ownsRow N 56 2 v L.length (L.flatMap Run.enc)) : ReadR N e w' x := by
  subst hx; exact ⟨v, he, ho⟩
theorem owns_none (w : World) (N b : Nat) (hb : w.heap.size = b) (hN : N ≤ w.heap.size) : (w.alloc (.cells #[] 56)).ownsRow N 56 2 (.slice (some ⟨b, 0, none⟩) 0 0) 0 [] := hb ▸ World.ownsRow_made _ _ _ hN (by decide) rfl
end Go.Proofs.Ytjcoakgdhiiiaaa
