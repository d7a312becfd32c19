/- Chapter 3's model: the small functions. -/
import Derived.Test.YtdnfphpeleakcaaS2b
import Derived.Test.YtdnfphpeleakcaaF3
namespace Go.Proofs.Ytdnfphpeleakcaa
set_option maxRecDepth 100000
open Go.RowKit Go.Proofs Go.Own
set_option linter.unusedVariables false
set_option linter.unusedSimpArgs false

theorem spec_l1All (v : Value) (xs : List Int) (a b : Int) (w : World) (h : Ints w v xs) :
    Calls Try.prog 54 #[v, .int .i64 a, .int .i64 b] w fun e w' => e = .returned (.bool (allIn xs a b 0)) ∧ w = w' := by
  obtain ⟨ad, cap, rfl, hl, hm, hc⟩ := h.open
  have hlen : xs.length ≤ 9223372036854775807 := by omega
  go_enter Try.func54, Try.ntmps54
  go_wp2
  go_loop [7] (fun i => ∃ k : Nat, k ≤ xs.length ∧ i = .int .i64 k ∧ Same (allIn xs a b 0) (allIn xs a b k)) (fun i => xs.length - (intOf i).toNat)
  case atStart => exact ⟨0, by omega, rfl, .rfl⟩
  case round =>
    obtain ⟨k, hk, rfl, hall⟩ := hrel
    by_cases hlt : k < xs.length
    · obtain ⟨bb, off, rfl, hbs, hcell⟩ := hc k hlt
      have hst := hid (allIn_step xs a b k hlt)
      clear hc
      go_wp2_with (go_at_call 53; refine (spec_l1In _ _ _ _).mono ?_; rintro e w' ⟨rfl, rfl⟩)
      · have hf : (!inB xs[k] a b) = true := by assumption
        go_ret
        exact ⟨ret_bool (by rw [hall.out, hst.out]; simp at hf; simp [hf]), rfl⟩
      · have hf : (!inB xs[k] a b) = false := by assumption
        go_round
        case rel => exact ⟨k+1, by omega, by go_num, .mk (by rw [hall.out, hst.out]; simp at hf; simp [hf])⟩
        case measure => simp [intOf]; omega
    · have hst := hid (allIn_end xs a b k hlt)
      go_wp2
      go_ret
      exact ⟨ret_bool (by rw [hall.out, hst.out]), rfl⟩

theorem spec_l1Min (a b : Int) (w : World) :
    Calls Try.prog 74 #[.int .i64 a, .int .i64 b] w fun e w' => e = .returned (.int .i64 (min a b)) ∧ w = w' := by
  go_enter Try.func74, Try.ntmps74
  go_wp2
  all_goals go_ret
  all_goals (refine ⟨ret_int ?_, rfl⟩; omega)

/-- The search from place k on. -/
def findAt (l : List Gone) (h : Int) (k : Nat) : Int := if findF (l.drop k) h = -1 then -1 else findF (l.drop k) h + k
theorem findF_ge (l : List Gone) (h : Int) : -1 ≤ findF l h := by
  induction l with
  | nil => simp [findF]
  | cons g l ih => simp only [findF]; split <;> (try split) <;> omega
theorem findAt_zero (l : List Gone) (h : Int) : findAt l h 0 = findF l h := by
  simp only [findAt, List.drop_zero]; split <;> simp_all
theorem findAt_step (l : List Gone) (h : Int) (k : Nat) (hk : k < l.length) : findAt l h k = if l[k].handle_ = h then (k : Int) else findAt l h (k + 1) := by
  have := findF_ge (l.drop (k + 1)) h
  simp only [findAt, List.drop_eq_getElem_cons hk, findF]
  by_cases e : l[k].handle_ = h
  · simp [e]
  · simp only [e, if_false]
    by_cases e2 : findF (l.drop (k + 1)) h = -1
    · simp [e2]
    · simp only [e2, if_false]
      rw [if_neg (by omega)]
      omega
theorem findAt_end (l : List Gone) (h : Int) (k : Nat) (hk : ¬ k < l.length) : findAt l h k = -1 := by
  simp [findAt, List.drop_eq_nil_of_le (Nat.le_of_not_lt hk), findF]

theorem spec_l3Find (v : Value) (xs : List Gone) (x : Int) (w : World) (h : Gones w v xs) :
    Calls Try.prog 56 #[v, .int .i64 x] w fun e w' => e = .returned (.int .i64 (findF xs x)) ∧ w = w' := by
  obtain ⟨ad, cap, rfl, hl, hm, hc⟩ := h.open
  have hlen : xs.length ≤ 9223372036854775807 := by omega
  have hz := hid (findAt_zero xs x)
  go_enter Try.func56, Try.ntmps56
  go_wp2
  go_loop [5] (fun i => ∃ k : Nat, k ≤ xs.length ∧ i = .int .i64 k ∧ Same (findF xs x) (findAt xs x k)) (fun i => xs.length - (intOf i).toNat)
  case atStart => exact ⟨0, by omega, rfl, .mk hz.out.symm⟩
  case round =>
    obtain ⟨k, hk, rfl, hall⟩ := hrel
    by_cases hlt : k < xs.length
    · obtain ⟨bb, off, rfl, hbs, hcell, hcell2⟩ := hc k hlt
      have hst := hid (findAt_step xs x k hlt)
      clear hc
      go_wp2
      · have hf : (xs[k].handle_ == x) = true := by assumption
        go_ret
        exact ⟨ret_int (by rw [hall.out, hst.out]; simp at hf; simp [hf]), rfl⟩
      · have hf : (xs[k].handle_ == x) = false := by assumption
        go_round
        case rel => exact ⟨k+1, by omega, by go_num, .mk (by rw [hall.out, hst.out]; simp at hf; simp [hf])⟩
        case measure => simp [intOf]; omega
    · have hst := hid (findAt_end xs x k hlt)
      go_wp2
      go_ret
      exact ⟨ret_int (by rw [hall.out, hst.out]), rfl⟩

/-- A slice cut at k from its beginning, for any element. -/
theorem flat_cut {α : Type} {w : World} {v : Value} {sz : Nat} {f : α → List Value} {xs : List α} {b off cap : Nat} (hsz : ∀ x, (f x).length = sz) (hp : 1 ≤ sz) (h : Flat w v xs.length sz (xs.flatMap f)) (hv : v = .slice (some ⟨b, off, none⟩) xs.length cap) (k : Nat) (hk : k ≤ xs.length) :
    Flat w (.slice (some ⟨b, off, none⟩) k cap) (xs.take k).length sz ((xs.take k).flatMap f) := by
  obtain ⟨_, a, c, e, h1, h2, _, h3⟩ := h
  rw [hv] at e
  obtain ⟨rfl, rfl⟩ : a = some ⟨b, off, none⟩ ∧ c = cap := by simp at e; exact ⟨e.1.symm, e.2.symm⟩
  have hl : (xs.take k).length = k := by simp; omega
  refine ⟨flatMap_len f sz hsz _, _, _, by rw [hl], by omega, h2, (by intro e; cases e), ?_⟩
  by_cases h0 : k = 0
  · exact .inl (by omega)
  · rcases h3 with h3 | ⟨b', off', ha, hs, hc⟩
    · omega
    · simp only [Option.some.injEq, Addr.mk.injEq, and_true] at ha
      obtain ⟨rfl, rfl⟩ := ha
      refine .inr ⟨b, off, rfl, hs, fun j hj => ?_⟩
      have hap : (xs.take k).flatMap f ++ (xs.drop k).flatMap f = xs.flatMap f := by rw [← List.flatMap_append, List.take_append_drop]
      have hjx : j < (xs.flatMap f).length := by rw [← hap, List.length_append]; omega
      rw [hc j hjx]
      congr 1
      simp only [← hap]
      rw [List.getElem_append_left hj]
theorem Gones.cut {w : World} {v : Value} {xs : List Gone} {b off cap : Nat} (h : Gones w v xs) (hv : v = .slice (some ⟨b, off, none⟩) xs.length cap) (k : Nat) (hk : k ≤ xs.length) : Gones w (.slice (some ⟨b, off, none⟩) k cap) (xs.take k) :=
  flat_cut (f := Gone.enc) (sz := 2) (fun _ => rfl) (by omega) h hv k hk
theorem Gones.at {w : World} {a : Option Addr} {n cap : Nat} {xs : List Gone} (h : Gones w (.slice a n cap) xs) (k : Nat) (hk : k < xs.length) (o : Gone) (ho : Hid (xs[k] = o)) : ∃ b off, a = some ⟨b, off, none⟩ ∧ b < w.heap.size ∧ w.cell? ⟨b, off + k * 2, none⟩ = some (.int .i64 o.handle_) ∧ w.cell? ⟨b, off + k * 2 + 1, none⟩ = some (.int .i64 o.pass_) := by
  obtain ⟨a', c', e, _, _, hc⟩ := h.open
  obtain ⟨rfl, _⟩ : a = a' ∧ cap = c' := by simp at e; exact ⟨e.1, e.2.2⟩
  have := hc k hk
  rw [ho.out] at this
  exact this
end Go.Proofs.Ytdnfphpeleakcaa
