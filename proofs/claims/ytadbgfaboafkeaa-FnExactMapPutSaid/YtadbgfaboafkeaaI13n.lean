/- Chapter 13's program: the iterator of a chain. -/
import Derived.Test.YtadbgfaboafkeaaI13
namespace Go.Proofs.Ytadbgfaboafkeaa
set_option maxRecDepth 100000
open Go.RowKit Go.Proofs Go.Own Go.Shelf
open Go Go.BigFrame
set_option linter.unusedVariables false
set_option linter.unusedSimpArgs false
attribute [local go_sem] Oper.semAt_some
def encP (L : List Node) (x : Nat) : Array Value := #[.int .i64 x, .agg #[.bool (nd L x).used_, .int .i64 (nd L x).key_, .int .i64 (nd L x).value_, .int .i64 (nd L x).next_]]
/-- How many more places may come, read off the world. -/
noncomputable def muP (L : List Node) (f : Int) (M : Nat) (J : List Nat → World → Prop) (p : Value) (V : World) : Nat := leastNat fun d => ∃ pre : List Nat, p = .int .i64 (nextOf L f pre) ∧ J pre V ∧ pre.length + d = M
theorem muP_le {L : List Node} {f : Int} {M : Nat} {J : List Nat → World → Prop} {p : Int} {V : World} (pre : List Nat) (hp : nextOf L f pre = p) (h : J pre V) (hl : pre.length ≤ M) : muP L f M J (.int .i64 p) V ≤ M - pre.length :=
  (leastNat_is (p := fun d => ∃ pre : List Nat, Value.int .i64 p = .int .i64 (nextOf L f pre) ∧ J pre V ∧ pre.length + d = M) (m := M - pre.length) ⟨pre, by rw [hp], h, by omega⟩).2
theorem muP_pick {L : List Node} {f : Int} {M : Nat} {J : List Nat → World → Prop} {V : World} (pre0 : List Nat) (h : J pre0 V) (hl : pre0.length ≤ M) : ∃ pre, nextOf L f pre0 = nextOf L f pre ∧ J pre V ∧ pre.length + muP L f M J (.int .i64 (nextOf L f pre0)) V = M := by
  obtain ⟨pre, h1, h2, h3⟩ := (leastNat_is (p := fun d => ∃ pre : List Nat, Value.int .i64 (nextOf L f pre0) = .int .i64 (nextOf L f pre) ∧ J pre V ∧ pre.length + d = M) (m := M - pre0.length) ⟨pre0, rfl, h, by omega⟩).1
  exact ⟨pre, by simpa using h1, h2, h3⟩
set_option maxHeartbeats 4000000 in
theorem nodes1_reads (F : Fence) (n : Nat) (hG : F.fn 42) (hro : F.round = none) (hn : 1 ≤ n) (c : ChainD) (hc : c.nodes_.length = 16) (hf : plOk c.first_) (hlk : ∀ k : Nat, plOk (nd c.nodes_ k).next_) (Bc M : Nat) :
    Reader F n Try.prog 42 #[.pointer (some ⟨Bc, 0, none⟩)] (encP c.nodes_) (fun pre V => BoxF V Bc c.enc ∧ pre.length ≤ M) (fun pre x => nextOf c.nodes_ c.first_ pre = (x : Int) ∧ x < 16) (fun xs => nextOf c.nodes_ c.first_ xs = -1) := by
  intro l J Jx W hJ hY h0
  have hl := chain_len hc
  have hln : (c.nodes_.flatMap Node.enc).length = 64 := by rw [nodes_len, hc]
  have HC := hid hc
  have HE := hid (show c.enc = [] ++ c.nodes_.flatMap Node.enc ++ [.int .i64 c.first_] from rfl)
  have H64 := hid (show c.enc[64]? = some (.int .i64 c.first_) by rw [HE.out, List.nil_append, List.getElem?_append_right (by omega), hln]; rfl)
  have HJ := hid hJ
  have HY := hid hY
  have HPL := hid (nextOf_pl hf hlk)
  have k64 : W.cell? ⟨Bc, 64, none⟩ = some (.int .i64 c.first_) := by
    have z := (hJ _ _ h0).1.1.2 64 (by rw [hl]; omega)
    rw [z]; exact H64.out
  clear hJ hY hc hf hlk
  refine callsIn_of_wp Try.func42 rfl hG ?_ hro
  simp only [Try.ntmps42, List.size_toArray, List.length_cons, List.length_nil, Nat.reduceAdd, Nat.reduceSub, Array.replicate_succ, Array.replicate_zero, List.push_toArray, List.append_toArray, List.nil_append, List.cons_append]
  gi_wp2
  gi_loopw [3] (fun p wr => ∃ pre : List Nat, p = .int .i64 (nextOf c.nodes_ c.first_ pre) ∧ J pre wr) (fun p wr => muP c.nodes_ c.first_ M J p wr)
  case atStart => exact ⟨[], rfl, h0⟩
  case round =>
    clear k64 h0
    obtain ⟨pre0, rfl, hJ0⟩ := hrel
    obtain ⟨pre, hpe, hJp, hlen⟩ := muP_pick (L := c.nodes_) (f := c.first_) (M := M) pre0 hJ0 (HJ.out _ _ hJ0).2
    rw [hpe] at hlen ⊢
    clear hpe hJ0 pre0
    have Hlen := hid hlen
    clear hlen
    rcases HPL.out pre with h1 | h1
    · have Hp := hid h1
      rw [h1]
      gi_wp2
      go_end0
      exact ⟨⟨_, rfl⟩, .inl ⟨pre, Hp.out, hJp⟩⟩
    · obtain ⟨k, hk, hk16⟩ : ∃ k : Nat, nextOf c.nodes_ c.first_ pre = (k : Int) ∧ k < 16 := ⟨(nextOf c.nodes_ c.first_ pre).toNat, by omega, by omega⟩
      clear h1
      obtain ⟨fn, tmps, assign, body, hy, hR⟩ := HY.out pre k wr hJp ⟨hk, hk16⟩
      rw [hk] at Hlen ⊢
      have B0 := hid (HJ.out _ _ hJp).1
      have hkL : k < c.nodes_.length := by rw [HC.out]; exact hk16
      have HK := hid (nd_eq c.nodes_ (k : Int) (by rw [Int.toNat_natCast]; exact hkL))
      simp only [Int.toNat_natCast] at HK
      have HN := hid (nextOf_snoc c.nodes_ c.first_ pre k)
      have Hcc := hid (fun (V : World) (hV : BoxF V Bc c.enc) l (hl4 : l < 4) => boxA_cell (A := []) (Z := [.int .i64 c.first_]) Node.enc 4 (fun _ => rfl) (by rw [← HE.out]; exact hV) k hkL l hl4)
      have c0 : wr.cell? ⟨Bc, k * 4, none⟩ = some (.bool c.nodes_[k].used_) := by have z := Hcc.out _ B0.out 0 (by omega); simpa [Node.enc] using z
      have c1 : wr.cell? ⟨Bc, k * 4 + 1, none⟩ = some (.int .i64 c.nodes_[k].key_) := by have z := Hcc.out _ B0.out 1 (by omega); simpa [Node.enc] using z
      have c2 : wr.cell? ⟨Bc, k * 4 + 2, none⟩ = some (.int .i64 c.nodes_[k].value_) := by have z := Hcc.out _ B0.out 2 (by omega); simpa [Node.enc] using z
      have c3 : wr.cell? ⟨Bc, k * 4 + 3, none⟩ = some (.int .i64 c.nodes_[k].next_) := by have z := Hcc.out _ B0.out 3 (by omega); simpa [Node.enc] using z
      have D3 := hid (fun (V : World) (hV : BoxF V Bc c.enc) => show V.cell? ⟨Bc, k * 4 + 3, none⟩ = some (.int .i64 c.nodes_[k].next_) by have z := Hcc.out _ hV 3 (by omega); simpa [Node.enc] using z)
      have hk0 : (0 : Int) ≤ (k : Int) := by omega
      have hki : (k : Int) < 16 := by omega
      unfold encP at hy
      rw [HK.out] at hy HN
      obtain ⟨X, hX⟩ : ∃ X, c.nodes_[k] = X := ⟨_, rfl⟩
      rw [hX] at c0 c1 c2 c3 hy D3 HN
      clear Hcc hX HK hk
      obtain ⟨xu, xk, xv, xn⟩ := X
      dsimp only at c0 c1 c2 c3 hy D3 HN
      gi_wp2
      refine hR.mono ?_
      rintro e W3 (⟨rfl, hJ3⟩ | ⟨rfl, hJx3⟩)
      · have d3 := D3.out W3 (HJ.out _ _ hJ3).1
        clear c0 c1 c2 c3
        gi_wp2
        go_roundw
        case rel => exact ⟨pre ++ [k], by rw [HN.out], hJ3⟩
        case measure =>
          have z2 := (HJ.out _ _ hJ3).2
          have z := muP_le (L := c.nodes_) (f := c.first_) (M := M) (pre ++ [k]) HN.out hJ3 z2
          have z3 := Hlen.out
          simp only [List.length_append, List.length_cons, List.length_nil] at z z2
          show muP c.nodes_ c.first_ M J (.int .i64 xn) W3 < muP c.nodes_ c.first_ M J (.int .i64 k) wr
          omega
      · gi_wp2
        refine bodyPost_ret (results_none rfl _ _ _) rfl ?_
        exact ⟨⟨_, rfl⟩, .inr ⟨_, hJx3⟩⟩
end Go.Proofs.Ytadbgfaboafkeaa
