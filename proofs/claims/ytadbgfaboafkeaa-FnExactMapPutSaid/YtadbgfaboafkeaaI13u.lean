/- Chapter 13's program: NewChain, the first node that is free, where the next one's place stands. -/
import Derived.Test.YtadbgfaboafkeaaI13g
import Derived.Test.YtadbgfaboafkeaaF13m
namespace Go.Proofs.Ytadbgfaboafkeaa
set_option maxRecDepth 100000
open Go.RowKit Go.Proofs Go.Own
open Go Go.BigFrame
set_option linter.unusedVariables false
set_option linter.unusedSimpArgs false
theorem wpList_indexA {P : Program} {w : World} {ops : Array Oper} {rest : List Oper} {o : Oper} {a : Act} {Q : Exit → Act → World → Prop} (hgd : o.guard = none) (t : TypeId) (x i : Operand) (ho : o.op = .index t x i)
    (xv iv rv : Value) (hx : a.eval x = xv) (hi : a.eval i = iv) (hrun : ∀ w : World, (Instr.index t xv iv).run P w = .ok rv w) (h : wpList P ops Q rest (a.put o.dst rv) w) : wpList P ops Q (o :: rest) a w := by
  refine wpList_plain hgd fun K hK => ?_
  unfold Oper.wp
  simp [execOp, ho, hx, hi, hrun w, Result.andThen]
  exact hK _ _ h
theorem boxF_nx {L : List Node} {f : Value} {ce : List Value} {w : World} {b : Nat} (he : ce = [] ++ L.flatMap Node.enc ++ [f]) (h : BoxF w b ce) (k : Nat) (hk : k < L.length) : w.cell? ⟨b, k * 4 + 3, none⟩ = some (.int .i64 L[k].next_) := by
  have z := boxA_cell (A := []) (Z := [f]) Node.enc 4 (fun _ => rfl) (by rw [← he]; exact h) k hk 3 (by omega)
  simpa [Node.enc] using z
/-- What the walk answers. -/
def WkAns (c : ChainD) (key : Int) (w : World) (e : Ending) (w' : World) : Prop := (∃ v r, e = .returned (.tuple #[v, .int .i64 r]) ∧ kwA c key v r) ∧ Below w.heap.size w w'
theorem impl_walkToA (c : ChainD) (hc : c.nodes_.length = 16) (key : Int) (w : World) : Calls Try.prog 38 #[.agg c.enc.toArray, .int .i64 key] w (WkAns c key w) := impl_walkTo0 c hc key w
set_option maxHeartbeats 4000000 in
theorem impl_unused0 (c : ChainD) (hc : c.nodes_.length = 16) (w : World) :
    Calls Try.prog 39 #[.agg c.enc.toArray] w fun e w' => e = .returned (.int .i64 (freeC c.nodes_)) ∧ Below w.heap.size w w' := by
  have hl := chain_len hc
  have hl2 : c.enc.toArray.size = 65 := by rw [List.size_toArray, hl]
  have hln : (c.nodes_.flatMap Node.enc).length = 64 := by rw [nodes_len, hc]
  have HC := hid hc
  have HE := hid (show c.enc = [] ++ c.nodes_.flatMap Node.enc ++ [.int .i64 c.first_] from rfl)
  generalize hce : c.enc = ce at *
  obtain ⟨W1, hW1⟩ : ∃ X, w.alloc (.cells ce.toArray 31) = X := ⟨_, rfl⟩
  have hB1 : Below w.heap.size w W1 := by rw [← hW1]; exact (Below.refl _ _).alloc (Nat.le_refl _) _
  have b0 : BoxF W1 w.heap.size ce := by
    rw [← hW1]
    exact BoxF.alloc w ce.toArray 31
  have B1 := hid b0
  have HB1 := hid hB1
  clear b0 hc hB1 hce
  go_enter Try.func39, Try.ntmps39
  go_wp2_with (refine wpList_load_part rfl 29 _ rfl w.heap.size [] (c.nodes_.flatMap Node.enc) [.int .i64 c.first_] ce (by exact B1.out) HE.out rfl _ Try.underlying29 rfl (by rw [hln]; kernel_rfl) ?_)
  clear hW1
  go_loopw [7] (fun i wr => ∃ k : Nat, k ≤ 16 ∧ i = .int .i64 k ∧ Hid (freeFrom (c.nodes_.drop k) k = freeC c.nodes_) ∧ Below W1.heap.size W1 wr) (fun i _ => 16 - (intOf i).toNat)
  case atStart => exact ⟨0, by omega, rfl, hid rfl, Below.refl _ _⟩
  case round =>
    obtain ⟨k, hk, rfl, HF, hB⟩ := hrel
    have HBr := hid (HB1.out.trans (hB.mono HB1.out.size))
    have HBB := hid hB
    clear hB
    by_cases hlt : k < 16
    · have hkL : k < c.nodes_.length := by rw [HC.out]; exact hlt
      have hix := index_A c.nodes_ HC.out k hkL
      have hk0 : (0 : Int) ≤ (k : Int) := by omega
      have hk16 : (k : Int) < 16 := by omega
      have HF2 := HF.out
      rw [freeFrom_drop c.nodes_ k hkL] at HF2
      obtain ⟨X, hX⟩ : ∃ X, c.nodes_[k] = X := ⟨_, rfl⟩
      rw [hX] at hix HF2
      clear hX
      obtain ⟨xu, xk, xv, xn⟩ := X
      dsimp only at hix HF2
      have hbn : Below wr.heap.size wr (wr.alloc (.cells #[.bool xu, .int .i64 xk, .int .i64 xv, .int .i64 xn] 28)) := (Below.refl _ _).alloc (Nat.le_refl _) _
      have HBE := hid (HBr.out.trans (hbn.mono HBr.out.size))
      have HBX := hid (HBB.out.trans (hbn.mono HBB.out.size))
      clear hbn
      cases xu with
      | true =>
        rw [if_pos rfl] at HF2
        have HF3 := hid HF2
        clear HF2 HF
        go_wp2_with (refine wpList_indexA rfl 29 _ _ rfl _ _ _ rfl rfl hix ?_)
        go_roundw
        case rel => exact ⟨k+1, by omega, by go_num, HF3, HBX.out⟩
        case measure => simp [intOf]; omega
      | false =>
        rw [if_neg (by simp)] at HF2
        have HF3 := hid HF2
        clear HF2 HF
        go_wp2_with (refine wpList_indexA rfl 29 _ _ rfl _ _ _ rfl rfl hix ?_)
        go_ret
        exact ⟨by rw [← HF3.out]; rfl, HBE.out⟩
    · obtain rfl : k = 16 := by omega
      have HF3 := hid (show freeC c.nodes_ = -1 by rw [← HF.out, List.drop_of_length_le (by rw [HC.out]; exact Nat.le_refl _)]; rfl)
      clear HF
      go_wp2
      go_ret
      exact ⟨by rw [HF3.out]; rfl, HBr.out⟩
theorem impl_linkBehind0 (b : Nat) (w : World) :
    Calls Try.prog 40 #[.pointer (some ⟨b, 0, none⟩), .int .i64 (-1)] w fun e w' => e = .returned (.pointer (some ⟨b, 64, none⟩)) ∧ w = w' := by
  go_enter Try.func40, Try.ntmps40
  go_wp2
  go_ret
  exact ⟨rfl, rfl⟩
theorem impl_linkBehind1 (b k : Nat) (hk : k < 16) (w : World) :
    Calls Try.prog 40 #[.pointer (some ⟨b, 0, none⟩), .int .i64 k] w fun e w' => e = .returned (.pointer (some ⟨b, k * 4 + 3, none⟩)) ∧ w = w' := by
  have hk0 : (0 : Int) ≤ (k : Int) := by omega
  have hki : (k : Int) < 16 := by omega
  have hne : ¬ (k : Int) = -1 := by omega
  go_enter Try.func40, Try.ntmps40
  go_wp2
  go_ret
  exact ⟨rfl, rfl⟩
end Go.Proofs.Ytadbgfaboafkeaa
