/- Chapter 15: a tree's cells; the model's list of the places below one. -/
import Derived.Test.YtdgmbcmgjadoiaaF15b
import Derived.Test.YtdgmbcmgjadoiaaS0
import Derived.Test.YtdgmbcmgjadoiaaExt0
import Derived.Test.YtdgmbcmgjadoiaaOv3
import Derived.Laws.StructEq
import Derived.Deep.CutRange
namespace Go.Proofs.Ytdgmbcmgjadoiaa
set_option maxRecDepth 100000
open Go.RowKit Go.Proofs Go.Own
open Go Go.BigFrame
set_option linter.unusedVariables false
set_option linter.unusedSimpArgs false
theorem wpList_load_boxg {P : Program} {ops : Array Oper} {rest : List Oper} {op : Oper} {a : Act} {w : World} {Q : Exit → Act → World → Prop} (hgd : Region.wanted op (yielded ops a.tmps) = true) (ty : TypeId) (x : Operand) (ho : op.op = .load ty x)
    (b : Nat) (cs : List Value) (hb : Box w b cs) (hx : a.eval x = .pointer (some ⟨b, 0, none⟩)) (d : TypeDesc) (hu : P.underlying ty = some d) (hd : d.isRow = true) (hi : (P.info? ty).map (·.size) = some cs.length)
    (h : wpList P ops Q rest (a.put op.dst (.agg cs.toArray)) w) : wpList P ops Q (op :: rest) a w := by
  refine wpList_step fun K hK => ?_
  rw [if_pos hgd]
  unfold Oper.wp execOp
  simp only [ho, hx, Instr.loadAt, Instr.sureAddr, Sem.run_bind, Sem.run_pure, Result.andThen_ok, run_loadVar_mid w b 0 ty cs d hb.range hu hd hi]
  exact hK _ _ h
theorem spec_l1InIs (x a b : Int) (r : Bool) (w : World) (e : inB x a b = r) :
    Calls Try.prog 65 #[.int .i64 x, .int .i64 a, .int .i64 b] w fun e w' => e = .returned (.bool r) ∧ w = w' := by subst e; exact spec_l1In x a b w
theorem spec_l1ValueIs (x : Int) (r : Bool) (w : World) (e : isVal x = r) :
    Calls Try.prog 49 #[.int .i64 x] w fun e w' => e = .returned (.bool r) ∧ w = w' := by subst e; exact spec_l1Value x w
theorem infoIntT : (Try.prog.info? 3).map (fun i => (i.zero, i.size, i.bytes)) = some (some (.int .i64 0), 1, 8) := by kernel_rfl
theorem oneT (x : Int) : ∀ c ∈ [Value.int .i64 x], c.oneCell' = true := by intro c hc; simp at hc; subst hc; rfl
theorem encI_snocT (xs : List Int) (k : Int) : (xs ++ [k]).flatMap encI = xs.flatMap encI ++ [.int .i64 k] := by simp [encI]
theorem tree_enc (L : List Twig) (r : Int) : TreeD.enc ⟨L, r⟩ = [] ++ L.flatMap Twig.enc ++ [.int .i64 r] := rfl
/-- The cells of a twig of a tree in a box. -/
theorem tree_at {W : World} {b : Nat} {L : List Twig} {r : Int} (h : BoxF W b (TreeD.enc ⟨L, r⟩)) (hL : L.length = 16) (k : Nat) (hk : k < 16) :
    W.cell? ⟨b, k * 4, none⟩ = some (.bool (tw L k).used_) ∧ W.cell? ⟨b, k * 4 + 1, none⟩ = some (.int .i64 (tw L k).key_) ∧ W.cell? ⟨b, k * 4 + 2, none⟩ = some (.int .i64 (tw L k).left_) ∧ W.cell? ⟨b, k * 4 + 3, none⟩ = some (.int .i64 (tw L k).right_) := by
  have hkL : k < L.length := by omega
  have e : tw L (k : Int) = L[k] := tw_eq L k (by rw [Int.toNat_natCast]; exact hkL)
  have Hc := fun j (hj : j < 4) => boxA_cell (A := []) (Z := [.int .i64 r]) Twig.enc 4 (fun _ => rfl) (by rw [← tree_enc]; exact h) k hkL j hj
  rw [e]
  exact ⟨by have z := Hc 0 (by omega); simpa [Twig.enc] using z, by have z := Hc 1 (by omega); simpa [Twig.enc] using z, by have z := Hc 2 (by omega); simpa [Twig.enc] using z, by have z := Hc 3 (by omega); simpa [Twig.enc] using z⟩
theorem tree_root {W : World} {b : Nat} {L : List Twig} {r : Int} (h : BoxF W b (TreeD.enc ⟨L, r⟩)) (hL : L.length = 16) : W.cell? ⟨b, 64, none⟩ = some (.int .i64 r) := by
  have hl := tree_len (c := ⟨L, r⟩) hL
  rw [h.1.2 64 (by omega), tree_enc, List.nil_append, List.getElem?_append_right (by rw [twigs_len, hL]; omega), twigs_len, hL]; rfl
theorem set_len16 {L : List Twig} (hL : L.length = 16) (k : Nat) (x : Twig) : (L.set k x).length = 16 := by rw [List.length_set]; exact hL
def encT (L : List Twig) (r : Int) : List Value := TreeD.enc ⟨L, r⟩
/-- A list that its holder may write into, in blocks that are known. -/
def Row (S : Nat → Prop) (w : World) (v : Value) (xs : List Int) : Prop := w.ownsRow 0 3 1 v xs.length (xs.flatMap encI) ∧ ∀ k, Blk v k → S k
theorem Row.below {S : Nat → Prop} {w w' : World} {v : Value} {xs : List Int} (h : Row S w v xs) (hb : Below w.heap.size w w') : Row S w' v xs := ⟨owns_below h.1 hb, h.2⟩
theorem Row.mono {S T : Nat → Prop} {w : World} {v : Value} {xs : List Int} (h : Row S w v xs) (hs : ∀ k, S k → T k) : Row T w v xs := ⟨h.1, fun k hk => hs k (h.2 k hk)⟩
theorem Row.chg {S T : Nat → Prop} {w w' : World} {v : Value} {xs : List Int} (h : Row S w v xs) (C : ChgS T w w') (hs : ∀ k, S k → ¬ T k) : Row S w' v xs :=
  ⟨owns_same h.1 fun k hk => C.block k (World.ownsRow.lt h.1 k hk).2 (hs k (h.2 k hk)), h.2⟩
theorem Row.form {S : Nat → Prop} {w : World} {v : Value} {xs : List Int} (h : Row S w v xs) : ∃ a c, v = .slice a xs.length c := by
  obtain ⟨hf, _⟩ := h
  obtain ⟨a, c, e, _⟩ := (Flat.of_owns hf).form
  exact ⟨a, c, e⟩
theorem Row.cut {S : Nat → Prop} {w : World} {v : Value} {xs : List Int} (h : Row S w v xs) : Row (fun k => S k ∧ k < w.heap.size) w v xs := ⟨h.1, fun k hk => ⟨h.2 k hk, (World.ownsRow.lt h.1 k hk).2⟩⟩
theorem keysT_len : ∀ (f : Nat) (L : List Twig) (p : Int) (out : List Int), out.length ≤ 16 → (keysT f L p out).1.length ≤ 16
  | 0, L, p, out, h => h
  | f+1, L, p, out, h => by
    unfold keysT
    split
    · exact h
    · split
      · split
        · rename_i h2
          simp only [Bool.and_eq_true, decide_eq_true_eq] at h2
          exact keysT_len f _ _ _ (by simp; omega)
        · exact keysT_len f _ _ _ h
      · exact h
end Go.Proofs.Ytdgmbcmgjadoiaa
