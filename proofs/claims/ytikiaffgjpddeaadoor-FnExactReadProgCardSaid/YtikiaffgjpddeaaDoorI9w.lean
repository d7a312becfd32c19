/- Chapter 9's program: words, names, an instruction's text. -/
import Derived.Test.YtikiaffgjpddeaaDoorI9
import Derived.Test.YtikiaffgjpddeaaDoorS9w
import Derived.Test.YtikiaffgjpddeaaDoorS9n
import Derived.Test.YtikiaffgjpddeaaDoorShelf
import Derived.Lib.AppendIntMem
import Derived.Lib.AtoiAllCases
import Derived.Lib.AtoiTie
namespace Go.Proofs.YtikiaffgjpddeaaDoor
set_option maxRecDepth 100000
open Go.RowKit Go.Proofs Go.Own
open Go Go.BigFrame Go.Shelf
set_option linter.unusedVariables false
set_option linter.unusedSimpArgs false
/-- The table that Itoa reads. -/
abbrev Tab (w : World) : Prop := Lib.TabIs Tryd.prog w "internal/strconv.uint64pow10" .u64 Lib.pow10Tab
theorem tab_below {w w' : World} (h : Tab w) (hb : Below w.heap.size w w') : Tab w' := Lib.tabBelow_of_tabIs h w' hb
theorem Ext.tab {W : World} (h : Tab W) : ∀ e : Ext W, Tab e.w := fun e => tab_below h e.h
/-- What the library's two errors hold, and its table. -/
def Env (w : World) : Prop := Tab w ∧ (∃ t p, w.cell? ⟨0, 0, none⟩ = some (.iface t p)) ∧ ∃ t p, w.cell? ⟨1, 0, none⟩ = some (.iface t p)
theorem env_below {w w' : World} (h : Env w) (hb : Below w.heap.size w w') : Env w' := by
  obtain ⟨h1, ⟨t, p, h2⟩, u, q, h3⟩ := h
  exact ⟨tab_below h1 hb, ⟨t, p, (hb.cell (Lib.lt_of_cell h2)).trans h2⟩, u, q, (hb.cell (Lib.lt_of_cell h3)).trans h3⟩
theorem itoaT (x : Int) (w : World) (h1 : -1000000000 ≤ x) (h2 : x ≤ 1000000000) (ht : Tab w) :
    Calls Tryd.prog 40 #[.int .i64 x] w fun e w' => e = .returned (.string (itoaB x)) ∧ Below w.heap.size w w' := by
  refine (Tryd.strconv_Itoa x (by omega) (by omega) w ht).mono ?_
  rintro e w' ⟨rfl, k, os, rfl⟩
  exact ⟨rfl, Lib.below_grow _ _ (Nat.le_refl _) _ _⟩
noncomputable def atoiV (l : List UInt8) : Int := Lib.NumEnd.casesOn (motive := fun _ => Int) (Lib.atoiAll l) (fun v => v) 0 (Lib.atoiSat l)
theorem atoiC (s : ByteArray) (hs : s.size ≤ 1000) (w : World) (hv : Env w) :
    Calls Tryd.prog 38 #[.string s] w fun e w' => ∃ er, e = .returned (.tuple #[.int .i64 (atoiV s.data.toList), er]) ∧ Below w.heap.size w w' := by
  obtain ⟨_, ⟨t, p, h2⟩, u, q, h3⟩ := hv
  rcases h : Lib.atoiAll s.data.toList with v | _ | _
  · refine (Any.strconv_Atoi_ok Tryd.laysC172 s (by omega) v h w).mono ?_
    rintro e w' ⟨rfl, hw⟩
    refine ⟨_, by unfold atoiV; rw [h], ?_⟩
    rcases hw with rfl | ⟨t, rfl⟩
    · exact Below.refl _ _
    · exact Lib.bytesWorld_below _ _ _
  · refine (Any.strconv_Atoi_syntax Tryd.laysC172 s (by omega) h _ w h2 (.inr ⟨_, _, rfl⟩)).mono ?_
    rintro e w' ⟨N, rfl, _, _, hb⟩
    exact ⟨_, by unfold atoiV; rw [h], hb⟩
  · refine (Any.strconv_Atoi_range Tryd.laysC172 s (by omega) h _ w h3 (.inr ⟨_, _, rfl⟩)).mono ?_
    rintro e w' ⟨N, rfl, _, _, hb⟩
    exact ⟨_, by unfold atoiV; rw [h], hb⟩
theorem decFrom_val : ∀ (l : List UInt8) (acc : Nat), (∀ c ∈ l, 48 ≤ c.toNat ∧ c.toNat ≤ 57) → Lib.decFrom acc l = some (valD acc l)
  | [], acc, _ => rfl
  | c :: r, acc, h => by
    have hc := h c (by simp)
    unfold Lib.decFrom Lib.digitVal
    rw [if_pos hc]
    show Lib.decFrom (acc * 10 + (c.toNat - 48)) r = _
    rw [decFrom_val r _ (fun d hd => h d (List.mem_cons_of_mem _ hd))]
    unfold valD
    rw [List.foldl_cons, Nat.mul_comm]
theorem atoi_num (l : List UInt8) : NumOk l (atoiV l) := by
  refine ⟨fun h => by subst h; rfl, fun x hx e => ?_⟩
  have key : Lib.atoi l = some x → l.length ≤ 18 → atoiV l = x := fun h hl => by
    unfold atoiV; rw [Lib.atoiAll_short l hl, h]; rfl
  rcases itoa_form hx e with ⟨h0, h1⟩ | ⟨c, r, h1, h2, h3, h4, h5, h6⟩ | ⟨c, r, h1, h2, h3, h4, h5⟩
  · subst h1; subst h0
    exact key rfl (by decide)
  · refine key ?_ (by omega)
    have e1 : (c == 45) = false := beq_eq_false_iff_ne.mpr (fun e => by subst e; exact absurd h2 (by decide))
    have e2 : (c == 43) = false := beq_eq_false_iff_ne.mpr (fun e => by subst e; exact absurd h2 (by decide))
    rw [h1] at h3 h5 ⊢
    show (if (c == 45) = true then _ else if (c == 43) = true then _ else _) = _
    rw [e1, e2]
    simp only [Bool.false_eq_true, if_false]
    unfold Lib.decNat
    rw [if_neg (by simp), decFrom_val _ _ h3, Option.map_some, h5]
  · refine key ?_ (by rw [h1]; simp at h4 ⊢; omega)
    rw [h1]
    have e9 : Lib.atoi (45 :: c :: r) = (Lib.decNat (c :: r)).map fun (m : Nat) => -(m : Int) := rfl
    rw [e9]
    unfold Lib.decNat
    rw [if_neg (by simp), decFrom_val _ _ h3, Option.map_some, h5]
theorem impl_word0 (x : Int) (w : World) :
    Calls Tryd.prog 32 #[.int .i64 0, .int .i64 x] w fun e w' => e = .returned (.string ByteArray.empty) ∧ Below w.heap.size w w' := by
  go_enter Tryd.func32, Tryd.ntmps32
  go_wp2
  go_ret
  exact ⟨rfl, Below.refl _ _⟩
theorem impl_word1 (o x : Int) (w : World) (ho : (o == 0) = false) (h1 : -1000000000 ≤ x) (h2 : x ≤ 1000000000) (ht : Tab w) :
    Calls Tryd.prog 32 #[.int .i64 o, .int .i64 x] w fun e w' => e = .returned (.string (⟨#[32]⟩ ++ itoaB x)) ∧ Below w.heap.size w w' := by
  have z := itoaB_size h1 h2
  have y : ¬ (9223372036854775807 < 1 + (itoaB x).size) := by omega
  have sp : (⟨#[32]⟩ : ByteArray).size = 1 := rfl
  go_enter Tryd.func32, Tryd.ntmps32
  go_wp2_with fail
  refine (itoaT x _ h1 h2 ht).mono ?_
  rintro e w2 ⟨rfl, b2⟩
  go_wp2
  go_ret
  exact ⟨rfl, b2⟩
def wordT (o x : Int) : ByteArray := if o = 0 then ByteArray.empty else ⟨#[32]⟩ ++ itoaB x
theorem wordT_size (o x : Int) (h1 : -1000000000 ≤ x) (h2 : x ≤ 1000000000) : (wordT o x).size ≤ 12 := by
  have z := itoaB_size h1 h2
  have sp : (⟨#[32]⟩ : ByteArray).size = 1 := rfl
  have e0 : ByteArray.empty.size = 0 := rfl
  unfold wordT; split
  · omega
  · rw [ByteArray.size_append]; omega
theorem impl_wordG (o x : Int) (w : World) (h1 : -1000000000 ≤ x) (h2 : x ≤ 1000000000) (ht : Tab w) :
    Calls Tryd.prog 32 #[.int .i64 o, .int .i64 x] w fun e w' => e = .returned (.string (wordT o x)) ∧ Below w.heap.size w w' := by
  unfold wordT
  by_cases h : o = 0
  · subst h
    rw [if_pos rfl]
    exact impl_word0 x w
  · rw [if_neg h]
    exact impl_word1 o x w (beq_eq_false_iff_ne.mpr h) h1 h2 ht
end Go.Proofs.YtikiaffgjpddeaaDoor
