/- Chapter 8's model: FinishAll. -/
import Derived.Test.YtbbdchlabdilcabGreatM12
import Derived.Test.YtbbdchlabdilcabGreatM13
import Derived.Test.YtbbdchlabdilcabGreatWr3
import Derived.Test.YtbbdchlabdilcabGreatM10
import Derived.Test.YtbbdchlabdilcabGreatN8o
import Derived.Deep.Cut
/- Chapter 8: what FinishAll answers. -/
namespace Go.Proofs.YtbbdchlabdilcabGreat
set_option maxRecDepth 100000
open Go.RowKit Go.Proofs Go.Own
/-- The least held object's descriptor, in a stack of its own. -/
def heldSt (hs : List Head) (ds : List DescD) : List Frame := [⟨(hAt hs ((heldC hs ds)[0]?.getD 0)).desc_, 0, 0⟩]
def finOne (x : List Head × List DescD) : List Head × List DescD := ((finR 2000 ⟨x.1, x.2, heldSt x.1 x.2⟩).1.hs, (finR 2000 ⟨x.1, x.2, heldSt x.1 x.2⟩).1.ds)
def finAllR : Nat → List Head × List DescD → Option (List Head × List DescD)
  | 0, x => if (heldC x.1 x.2).length = 0 then some x else none
  | k+1, x => if (heldC x.1 x.2).length = 0 then some x else finAllR k (finOne x)
theorem finAllR_done {k : Nat} {x : List Head × List DescD} (h : (heldC x.1 x.2).length = 0) : finAllR k x = some x := by cases k <;> exact if_pos h
theorem finAllR_none {x : List Head × List DescD} (h : ¬ (heldC x.1 x.2).length = 0) : finAllR 0 x = none := if_neg h
theorem finAllR_step {k : Nat} {x : List Head × List DescD} (h : ¬ (heldC x.1 x.2).length = 0) : finAllR (k+1) x = finAllR k (finOne x) := if_neg h
theorem heldTo_mem {hs : List Head} : ∀ (k : Nat) (o : Int), o ∈ heldTo hs k → ∃ i : Nat, o = i ∧ i < hs.length ∧ i < k ∧ 0 ≤ (hAt hs i).desc_
  | 0, o, h => by simp [heldTo] at h
  | k+1, o, h => by
    unfold heldTo at h
    rcases List.mem_append.1 h with h | h
    · obtain ⟨i, e, h1, h2, h3⟩ := heldTo_mem k o h
      exact ⟨i, e, h1, by omega, h3⟩
    · split at h
      · rename_i hd e
        split at h
        · rename_i h0
          simp only [List.mem_singleton] at h
          have hk : k < hs.length := (List.getElem?_eq_some_iff.1 e).1
          refine ⟨k, h, hk, by omega, ?_⟩
          rw [hAt_eq hk]
          rw [List.getElem?_eq_getElem hk] at e
          simp only [Option.some.injEq] at e
          rw [e]; exact h0
        · simp at h
      · simp at h
/-- The least held object, its head. -/
theorem held_first {hs : List Head} {ds : List DescD} (hso : storeOk hs ds = true) (h : ¬ (heldC hs ds).length = 0) : ∃ o : Nat, (heldC hs ds)[0]? = some (o : Int) ∧ o < hs.length ∧ 0 ≤ (hAt hs o).desc_ ∧ (hAt hs o).desc_ < (ds.length : Int) ∧ heldSt hs ds = [⟨(hAt hs o).desc_, 0, 0⟩] := by
  have hl : 0 < (heldC hs ds).length := by omega
  have hm : (heldC hs ds)[0] ∈ heldC hs ds := List.getElem_mem hl
  have hm2 : (heldC hs ds)[0] ∈ heldTo hs hs.length := by
    have e : heldC hs ds = heldTo hs hs.length := by unfold heldC; rw [if_pos hso]
    rw [← e]; exact hm
  obtain ⟨o, e, h1, -, h3⟩ := heldTo_mem _ _ hm2
  have h4 := (head_in hso h1).2.2
  refine ⟨o, by rw [List.getElem?_eq_getElem hl, e], h1, h3, by rw [hAt_eq h1]; exact h4, ?_⟩
  unfold heldSt
  rw [List.getElem?_eq_getElem hl, Option.getD_some, e]
theorem heldSt_ok {hs : List Head} {ds : List DescD} (hso : storeOk hs ds = true) (h : ¬ (heldC hs ds).length = 0) : stackOk hs ds (heldSt hs ds) = true := by
  obtain ⟨o, -, h1, h2, h3, e⟩ := held_first hso h
  rw [e]
  exact stackOk_iff.2 ⟨hso, by simp, fun f hf => by simp only [List.mem_singleton] at hf; subst hf; exact ⟨by simp, newFrame_ok hso h2 h3⟩⟩
theorem finOne_ok {x : List Head × List DescD} (hso : storeOk x.1 x.2 = true) (h : ¬ (heldC x.1 x.2).length = 0) : storeOk (finOne x).1 (finOne x).2 = true :=
  (stackOk_iff.1 (finR_ok 2000 (x := ⟨x.1, x.2, heldSt x.1 x.2⟩) (heldSt_ok hso h))).1
/-- What has been reached behind so many. -/
def AllAt (x : List Head × List DescD) (n : Nat) (y : List Head × List DescD) : Prop := n ≤ 60 ∧ storeOk y.1 y.2 = true ∧ finAllR 60 x = finAllR (60 - n) y
theorem AllAt.zero {x : List Head × List DescD} (h : storeOk x.1 x.2 = true) : AllAt x 0 x := ⟨by omega, h, rfl⟩
theorem AllAt.step {x y : List Head × List DescD} {n : Nat} (h : AllAt x n y) (hn : n < 60) (hy : ¬ (heldC y.1 y.2).length = 0) : AllAt x (n+1) (finOne y) := by
  obtain ⟨h1, h2, h3⟩ := h
  rw [show 60 - n = (60 - (n+1)) + 1 by omega, finAllR_step hy] at h3
  exact ⟨hn, finOne_ok h2 hy, h3⟩
theorem AllAt.done {x y : List Head × List DescD} {n : Nat} (h : AllAt x n y) (hy : (heldC y.1 y.2).length = 0) : finAllR 60 x = some y := by rw [h.2.2, finAllR_done hy]
theorem AllAt.none {x y : List Head × List DescD} (h : AllAt x 60 y) (hy : ¬ (heldC y.1 y.2).length = 0) : finAllR 60 x = none := by rw [h.2.2, Nat.sub_self, finAllR_none hy]
structure AllD where
  x : List Head × List DescD
  b : Bool
def finAllA (hs : List Head) (ds : List DescD) : AllD := if storeOk hs ds = true then (match finAllR 60 (hs, ds) with | some y => ⟨y, true⟩ | none => ⟨(hs, ds), false⟩) else ⟨(hs, ds), false⟩
theorem finAllA_no {hs : List Head} {ds : List DescD} (h : storeOk hs ds = false) : finAllA hs ds = ⟨(hs, ds), false⟩ := if_neg (by rw [h]; simp)
theorem finAllA_some {hs : List Head} {ds : List DescD} {y : List Head × List DescD} (h : storeOk hs ds = true) (e : finAllR 60 (hs, ds) = some y) : finAllA hs ds = ⟨y, true⟩ := by unfold finAllA; rw [if_pos h, e]
theorem finAllA_none {hs : List Head} {ds : List DescD} (h : storeOk hs ds = true) (e : finAllR 60 (hs, ds) = none) : finAllA hs ds = ⟨(hs, ds), false⟩ := by unfold finAllA; rw [if_pos h, e]
end Go.Proofs.YtbbdchlabdilcabGreat
namespace Go.Proofs.YtbbdchlabdilcabGreat
set_option maxRecDepth 100000
open Go.RowKit Go.Proofs Go.Own
open Go Go.BigFrame
set_option linter.unusedVariables false
set_option linter.unusedSimpArgs false
/-- The store that has been reached, in memory: the call's own, apart from the variable's box. -/
def AllMem (N R : Nat) (wr : World) (u0 u1 : Value) (y : List Head × List DescD) : Prop := ∃ S0 S1 : Nat → Prop, ownL S0 wr u0 y.1 ∧ ownL S1 wr u1 y.2 ∧ (∀ k, S0 k → N ≤ k ∧ k < wr.heap.size ∧ k ≠ R) ∧ (∀ k, S1 k → N ≤ k ∧ k < wr.heap.size ∧ k ≠ R) ∧ ∀ k, S0 k → ¬ S1 k
theorem AllMem.keep {N R : Nat} {w w' : World} {u0 u1 : Value} {y : List Head × List DescD} (h : AllMem N R w u0 u1 y) (hb : Below w.heap.size w w') : AllMem N R w' u0 u1 y := by
  obtain ⟨S0, S1, o0, o1, g0, g1, d⟩ := h
  have := hb.size
  exact ⟨S0, S1, o0.keep fun b h => hb.block b (g0 b h).2.1, o1.keep fun b h => hb.block b (g1 b h).2.1, fun k h => ⟨(g0 k h).1, by have := (g0 k h).2.1; omega, (g0 k h).2.2⟩, fun k h => ⟨(g1 k h).1, by have := (g1 k h).2.1; omega, (g1 k h).2.2⟩, d⟩
theorem AllMem.fin {N R Q : Nat} {w X : World} {u0 u1 : Value} {y : List Head × List DescD} {a b : Value} (h : AllMem N R X u0 u1 y) (hN : w.heap.size ≤ N) (hQ : Q < N) : StoreOwn w ((X.setCell ⟨Q, 0, none⟩ a).setCell ⟨Q, 1, none⟩ b) u0 u1 y.1 y.2 := by
  obtain ⟨S0, S1, o0, o1, g0, g1, d⟩ := h
  exact SOwn.fin o0 o1 (fun k h => by have := g0 k h; exact ⟨by omega, by omega, by omega⟩) (fun k h => by have := g1 k h; exact ⟨by omega, by omega, by omega⟩) d
theorem AllMem.own {N R : Nat} {w X : World} {u0 u1 : Value} {y : List Head × List DescD} (h : StoreOwn w X u0 u1 y.1 y.2) (hN : N ≤ w.heap.size) (hR : R < w.heap.size) : AllMem N R X u0 u1 y := by
  obtain ⟨S0, S1, o0, o1, g0, g1, d⟩ := h
  exact ⟨S0, S1, o0, o1, fun k h => by have h9 := g0 k h; unfold Rg at h9; exact ⟨by omega, by omega, by omega⟩, fun k h => by have h9 := g1 k h; unfold Rg at h9; exact ⟨by omega, by omega, by omega⟩, d⟩
theorem AllMem.set {N R : Nat} {X : World} {u0 u1 a b : Value} {y : List Head × List DescD} (h : AllMem N R X u0 u1 y) : AllMem N R ((X.setCell ⟨R, 0, none⟩ a).setCell ⟨R, 1, none⟩ b) u0 u1 y := by
  obtain ⟨S0, S1, o0, o1, g0, g1, d⟩ := h
  exact ⟨S0, S1, own_set (own_set o0 fun k h => (g0 k h).2.2) fun k h => (g0 k h).2.2, own_set (own_set o1 fun k h => (g1 k h).2.2) fun k h => (g1 k h).2.2, fun k h => ⟨(g0 k h).1, by simpa [World.setCell] using (g0 k h).2.1, (g0 k h).2.2⟩, fun k h => ⟨(g1 k h).1, by simpa [World.setCell] using (g1 k h).2.1, (g1 k h).2.2⟩, d⟩
theorem AllMem.chg {N R : Nat} {w w' : World} {u0 u1 : Value} {y : List Head × List DescD} (h : AllMem N R w u0 u1 y) (hC : ChgS (fun b => b = R) w w') : AllMem N R w' u0 u1 y := by
  obtain ⟨S0, S1, o0, o1, g0, g1, d⟩ := h
  have := hC.size
  exact ⟨S0, S1, o0.keep fun b h => hC.block b (g0 b h).2.1 (g0 b h).2.2, o1.keep fun b h => hC.block b (g1 b h).2.1 (g1 b h).2.2, fun k h => ⟨(g0 k h).1, by have := (g0 k h).2.1; omega, (g0 k h).2.2⟩, fun k h => ⟨(g1 k h).1, by have := (g1 k h).2.1; omega, (g1 k h).2.2⟩, d⟩
theorem finA_gen {hs : List Head} {ds : List DescD} {st : List Frame} {k : Nat} (hk : finOk hs ds st (k : Int) = true) : (finA hs ds st (k : Int)).x = (finR k ⟨hs, ds, st⟩).1 := by
  rw [finA_yes hk (y := (finR k ⟨hs, ds, st⟩).1) (n := (finR k ⟨hs, ds, st⟩).2) rfl]
theorem finA_one {y : List Head × List DescD} (hso : storeOk y.1 y.2 = true) (h : ¬ (heldC y.1 y.2).length = 0) : (finA y.1 y.2 (heldSt y.1 y.2) 2000).x.hs = (finOne y).1 ∧ (finA y.1 y.2 (heldSt y.1 y.2) 2000).x.ds = (finOne y).2 := by
  have hk : finOk y.1 y.2 (heldSt y.1 y.2) ((2000 : Nat) : Int) = true := by unfold finOk; rw [heldSt_ok hso h]; rfl
  have e := finA_gen hk
  rw [show ((2000 : Nat) : Int) = 2000 from rfl] at e
  rw [e]
  unfold finOne
  exact ⟨rfl, rfl⟩
theorem storeOk_small {hs : List Head} {ds : List DescD} (h : storeOk hs ds = true) : hs.length ≤ 1048576 ∧ ds.length ≤ 1048576 ∧ ∀ i, (h : i < ds.length) → ds[i].entries_.length ≤ 1048576 := by
  have h9 := storeOk_all h
  refine ⟨by omega, by omega, fun i hi => ?_⟩
  have h8 := h9.2.2.1 i hi
  unfold descIn at h8
  simp only [Bool.and_eq_true] at h8
  have h7 := descOk_len h8.1
  omega
theorem AllMem.rds {N R : Nat} {w : World} {u0 u1 : Value} {y : List Head × List DescD} (h : AllMem N R w u0 u1 y) : rdsL w u0 y.1 ∧ rdsL w u1 y.2 := by
  obtain ⟨S0, S1, o0, o1, -⟩ := h
  exact ⟨o0.rds, o1.rds⟩
theorem AllMem.len {N R : Nat} {w : World} {u0 u1 : Value} {y : List Head × List DescD} (h : AllMem N R w u0 u1 y) : (∃ a cap, u0 = .slice a y.1.length cap ∧ y.1.length ≤ cap ∧ cap ≤ 9223372036854775807) ∧ ∃ a cap, u1 = .slice a y.2.length cap ∧ y.2.length ≤ cap ∧ cap ≤ 9223372036854775807 := by
  obtain ⟨S0, S1, o0, o1, -⟩ := h
  exact ⟨ownL_len o0, ownL_len o1⟩
set_option maxHeartbeats 8000000 in
theorem spec_FinishAll0 (hs : List Head) (ds : List DescD) (v0 v1 : Value) (w : World) (hx0 : hs.length ≤ 1048576) (hx1 : ds.length ≤ 1048576) (hx2 : ∀ i, (h : i < ds.length) → ds[i].entries_.length ≤ 1048576) (h0 : rdsL w v0 hs) (h1 : rdsL w v1 ds) :
    Calls Tryz.prog 18 #[.agg #[v0, v1]] w fun e w' => ∃ u0 u1 : Value, e = .returned (.tuple #[.agg #[u0, u1], .bool (finAllA hs ds).b]) ∧ StoreOwn w w' u0 u1 (finAllA hs ds).x.1 (finAllA hs ds).x.2 ∧ Below w.heap.size w w' := by
  have H0 := hid h0
  have H1 := hid h1
  have HX2 := hid hx2
  obtain ⟨a0, cap0, rfl, hl0, hm0, -⟩ := rdsL_open h0
  obtain ⟨a1, cap1, rfl, hl1, hm1, -⟩ := rdsL_open h1
  clear h0 h1 hx2
  obtain ⟨W1, hW1⟩ : ∃ X, (w.alloc (.cells #[Value.slice a0 hs.length cap0, Value.slice a1 ds.length cap1] 37)).alloc (.cells #[Value.slice none 0 0, Value.slice none 0 0] 37) = X := ⟨_, rfl⟩
  have hB1 : Below w.heap.size w W1 := by rw [← hW1]; exact ((Below.refl _ _).alloc (Nat.le_refl _) _).alloc (by simp) _
  have hN : W1.heap.size = w.heap.size + 2 := by rw [← hW1]; simp
  have bs : BoxF W1 w.heap.size [Value.slice a0 hs.length cap0, Value.slice a1 ds.length cap1] := by rw [← hW1]; exact (BoxF.alloc w #[Value.slice a0 hs.length cap0, Value.slice a1 ds.length cap1] 37).below ((Below.refl _ _).alloc (Nat.le_refl _) _)
  have bq : BoxF W1 (w.heap.size + 1) [Value.slice none 0 0, Value.slice none 0 0] := by
    rw [← hW1]
    have h1 := BoxF.alloc (w.alloc (.cells #[Value.slice a0 hs.length cap0, Value.slice a1 ds.length cap1] 37)) #[Value.slice none 0 0, Value.slice none 0 0] 37
    rw [show (w.alloc (.cells #[Value.slice a0 hs.length cap0, Value.slice a1 ds.length cap1] 37)).heap.size = w.heap.size + 1 by simp] at h1
    exact h1
  have k0 : W1.cell? ⟨w.heap.size, 0, none⟩ = some (Value.slice a0 hs.length cap0) := bs.1.2 0 (by simp)
  have k1 : W1.cell? ⟨w.heap.size, 1, none⟩ = some (Value.slice a1 ds.length cap1) := bs.1.2 1 (by simp)
  have R0 := hid (rdsL.below H0.out hB1)
  have R1 := hid (rdsL.below H1.out hB1)
  have BS := hid bs
  have BQ := hid bq
  have HW1 := hid hW1
  clear bs bq hW1
  go_enter Tryz.func18, Tryz.ntmps18
  go_wp2_with fail
  rw [HW1.out]
  refine (spec_l7Copy0 hs ds _ _ _ hx0 hx1 HX2.out R0.out R1.out).mono ?_
  rintro e w2 ⟨u0, u1, S0, S1, rfl, o0, o1, rg0, rg1, dj, b2⟩
  obtain ⟨xa, xc, rfl, -, -⟩ := ownL_len o0
  obtain ⟨ya, yc, rfl, -, -⟩ := ownL_len o1
  have hB2 := hB1.trans (b2.mono hB1.size)
  have hs2 := b2.size
  obtain ⟨V, hV⟩ : ∃ X, w2.alloc (.cells #[Value.slice xa hs.length xc, Value.slice ya ds.length yc] 37) = X := ⟨_, rfl⟩
  have bV : Below w2.heap.size w2 V := by rw [← hV]; exact (Below.refl _ _).alloc (Nat.le_refl _) _
  have hsV : V.heap.size = w2.heap.size + 1 := by rw [← hV]; simp
  have HBV := hid (hB2.trans (bV.mono hB2.size))
  have BSV := hid ((BS.out.below b2).below bV)
  have BQV := hid ((BQ.out.below b2).below bV)
  have BOV : Hid (BoxF V w2.heap.size [Value.slice xa hs.length xc, Value.slice ya ds.length yc]) := by rw [← hV]; exact hid (BoxF.alloc w2 #[Value.slice xa hs.length xc, Value.slice ya ds.length yc] 37)
  have AV : Hid (AllMem (w.heap.size + 2) w2.heap.size V (Value.slice xa hs.length xc) (Value.slice ya ds.length yc) (hs, ds)) := hid ⟨S0, S1, o0.keep fun b hb => bV.block b (rg0 b hb).2, o1.keep fun b hb => bV.block b (rg1 b hb).2, fun b hb => by have h9 := rg0 b hb; unfold Rg at h9; exact ⟨by omega, by omega, by omega⟩, fun b hb => by have h9 := rg1 b hb; unfold Rg at h9; exact ⟨by omega, by omega, by omega⟩, dj⟩
  have q0 : V.cell? ⟨w.heap.size, 0, none⟩ = some (Value.slice a0 hs.length cap0) := BSV.out.1.2 0 (by simp)
  have q1 : V.cell? ⟨w.heap.size, 1, none⟩ = some (Value.slice a1 ds.length cap1) := BSV.out.1.2 1 (by simp)
  have P0 := hid (rdsL.below H0.out HBV.out)
  have P1 := hid (rdsL.below H1.out HBV.out)
  clear o0 o1 rg0 rg1 dj k0 k1 R0 R1 BS BQ b2 bV
  go_wp2_with fail
  clear hV q0 q1
  refine (spec_StoreOk0 hs ds _ _ _ P0.out P1.out).mono ?_
  rintro e w4 ⟨rfl, b4⟩
  have hs4 := b4.size
  have HB4 := hid (HBV.out.trans (b4.mono HBV.out.size))
  have BS4 := hid (BSV.out.below b4)
  have BQ4 := hid (BQV.out.below b4)
  have BO4 := hid (BOV.out.below b4)
  have A4 := hid (AV.out.keep b4)
  have G3 := hid (show w.heap.size + 2 ≤ w2.heap.size ∧ w2.heap.size < w4.heap.size ∧ w.heap.size + 1 < w4.heap.size by omega)
  clear P0 P1 BSV BQV BOV AV b4
  cases hso : storeOk hs ds with
  | false =>
    have HR := hid (finAllA_no hso)
    have m0 : w4.cell? ⟨w2.heap.size, 0, none⟩ = some (Value.slice xa hs.length xc) := BO4.out.1.2 0 (by simp)
    have m1 : w4.cell? ⟨w2.heap.size, 1, none⟩ = some (Value.slice ya ds.length yc) := BO4.out.1.2 1 (by simp)
    have n0 : w4.cell? ⟨w.heap.size + 1, 0, none⟩ = some (Value.slice none 0 0) := BQ4.out.1.2 0 (by simp)
    have z0 : w4.frozen? ⟨w.heap.size + 1, 0, none⟩ = false := BQ4.out.2 0 (by simp)
    have n1 : w4.cell? ⟨w.heap.size + 1, 1, none⟩ = some (Value.slice none 0 0) := BQ4.out.1.2 1 (by simp)
    have z1 : w4.frozen? ⟨w.heap.size + 1, 1, none⟩ = false := BQ4.out.2 1 (by simp)
    go_wp2_with ((try simp only [Exit.inBlock, Exit.then]); (with_reducible refine bodyPost_ret (v := .tuple #[.agg #[Value.slice xa hs.length xc, Value.slice ya ds.length yc], .bool false]) ?_ (by exact rfl) ?_); (simp [results, Tryz.results18, go_sem, n0, n1, z0, z1]); (exact ⟨_, _, by rw [HR.out], by rw [HR.out]; exact A4.out.fin (by omega) (by omega), (HB4.out.setCell (by show w.heap.size ≤ w.heap.size + 1; omega) _).setCell (by show w.heap.size ≤ w.heap.size + 1; omega) _⟩))
  | true =>
  have HSO := hid hso
  have M0 := hid (AllAt.zero (x := (hs, ds)) hso)
  clear hso hs2
  go_wp2_with fail
  go_loopw [5] (fun i wr => ∃ (k : Nat) (y : List Head × List DescD) (u0 u1 : Value), i = .int .i64 k ∧ k ≤ 60 ∧ Hid (AllAt (hs, ds) k y) ∧ Hid (AllMem (w.heap.size + 2) w2.heap.size wr u0 u1 y) ∧ Hid (BoxF wr w.heap.size [Value.slice a0 hs.length cap0, Value.slice a1 ds.length cap1]) ∧ Hid (BoxF wr (w.heap.size + 1) [Value.slice none 0 0, Value.slice none 0 0]) ∧ Hid (BoxF wr w2.heap.size [u0, u1]) ∧ Hid (Below w.heap.size w wr) ∧ w2.heap.size < wr.heap.size) (fun i _ => 61 - (intOf i).toNat)
  case atStart => exact ⟨0, _, _, _, rfl, Nat.zero_le _, M0, A4, BS4, BQ4, BO4, HB4, G3.out.2.1⟩
  case round =>
    clear M0 A4 BS4 BQ4 BO4 HB4
    obtain ⟨k, y, u0, u1, rfl, hk, HA, AM, BSr, BQr, BO, HB, hR⟩ := hrel
    obtain ⟨ra, rc, rfl, -, -⟩ := AM.out.len.1
    obtain ⟨sa, sc, rfl, -, -⟩ := AM.out.len.2
    obtain ⟨ys, yd⟩ := y
    dsimp only at AM BO ⊢
    have hyo := hid (show storeOk ys yd = true from HA.out.2.1)
    have hsm := hid (storeOk_small hyo.out)
    have k0 : wr.cell? ⟨w2.heap.size, 0, none⟩ = some (Value.slice ra ys.length rc) := BO.out.1.2 0 (by simp)
    have k1 : wr.cell? ⟨w2.heap.size, 1, none⟩ = some (Value.slice sa yd.length sc) := BO.out.1.2 1 (by simp)
    have hki : (k : Int) ≤ 60 := by omega
    have P0 := hid AM.out.rds.1
    have P1 := hid AM.out.rds.2
    go_wp2_with fail
    clear k0 k1
    refine (spec_Held0 ys yd _ _ _ hsm.out.1 P0.out P1.out).mono ?_
    rintro e w5 ⟨u, rfl, ou, b5⟩
    obtain ⟨ha, hm, hc, rfl⟩ := owns_form3 ou
    have hs5 := b5.size
    have AM5 := hid (AM.out.keep b5)
    have BS5 := hid (BSr.out.below b5)
    have BQ5 := hid (BQr.out.below b5)
    have BO5 := hid (BO.out.below b5)
    have HB5 := hid (HB.out.trans (b5.mono HB.out.size))
    have hmE : Hid (hm = (heldC ys yd).length) := by
      obtain ⟨-, h9⟩ := ou
      rcases h9 with ⟨h8, h9⟩ | ⟨g9, c9, -, h9, -⟩
      · simp only [Value.slice.injEq] at h8; exact hid (by omega)
      · simp only [Value.slice.injEq] at h9; exact hid h9.2.1
    have OU := hid ou
    clear ou AM BSr BQr BO P0 P1 b5
    by_cases hz : (heldC ys yd).length = 0
    · have hz' : ((hm : Int) == 0) = true := by rw [hmE.out, hz]; rfl
      have HE := hid (HA.out.done hz)
      have HR := hid (finAllA_some HSO.out HE.out)
      clear hz
      have m0 : w5.cell? ⟨w2.heap.size, 0, none⟩ = some (Value.slice ra ys.length rc) := BO5.out.1.2 0 (by simp)
      have m1 : w5.cell? ⟨w2.heap.size, 1, none⟩ = some (Value.slice sa yd.length sc) := BO5.out.1.2 1 (by simp)
      have n0 : w5.cell? ⟨w.heap.size + 1, 0, none⟩ = some (Value.slice none 0 0) := BQ5.out.1.2 0 (by simp)
      have z0 : w5.frozen? ⟨w.heap.size + 1, 0, none⟩ = false := BQ5.out.2 0 (by simp)
      have n1 : w5.cell? ⟨w.heap.size + 1, 1, none⟩ = some (Value.slice none 0 0) := BQ5.out.1.2 1 (by simp)
      have z1 : w5.frozen? ⟨w.heap.size + 1, 1, none⟩ = false := BQ5.out.2 1 (by simp)
      go_wp2_with ((try simp only [Exit.inBlock, Exit.then]); (with_reducible refine bodyPost_ret (v := .tuple #[.agg #[Value.slice ra ys.length rc, Value.slice sa yd.length sc], .bool true]) ?_ (by exact rfl) ?_); (simp [results, Tryz.results18, go_sem, n0, n1, z0, z1]); (exact ⟨_, _, by rw [HR.out], by rw [HR.out]; exact AM5.out.fin (by omega) (by omega), (HB5.out.setCell (by show w.heap.size ≤ w.heap.size + 1; omega) _).setCell (by show w.heap.size ≤ w.heap.size + 1; omega) _⟩))
    · have hz' : ((hm : Int) == 0) = false := by rw [hmE.out, beq_eq_false_iff_ne]; omega
      have HZ := hid hz
      clear hz
      by_cases hk6 : k = 60
      · subst hk6
        have HR := hid (finAllA_none HSO.out (HA.out.none HZ.out))
        have k0 : w5.cell? ⟨w.heap.size, 0, none⟩ = some (Value.slice a0 hs.length cap0) := BS5.out.1.2 0 (by simp)
        have k1 : w5.cell? ⟨w.heap.size, 1, none⟩ = some (Value.slice a1 ds.length cap1) := BS5.out.1.2 1 (by simp)
        have P0 := hid (rdsL.below H0.out HB5.out)
        have P1 := hid (rdsL.below H1.out HB5.out)
        go_wp2_with fail
        clear k0 k1
        refine (spec_l7Copy0 hs ds _ _ _ hx0 hx1 HX2.out P0.out P1.out).mono ?_
        rintro e w6 ⟨u0, u1, S0, S1, rfl, o0, o1, rg0, rg1, dj, b6⟩
        obtain ⟨xa, xc, rfl, -, -⟩ := ownL_len o0
        obtain ⟨ya, yc, rfl, -, -⟩ := ownL_len o1
        have hs6 := b6.size
        have BQ6 := hid (BQ5.out.below b6)
        have HB6 := hid (HB5.out.trans (b6.mono HB5.out.size))
        have AM6 := hid (AllMem.own (N := w.heap.size + 2) (R := w2.heap.size) (y := (hs, ds)) (show StoreOwn w5 w6 _ _ hs ds from ⟨S0, S1, o0, o1, rg0, rg1, dj⟩) (by have := G3.out; omega) (by have := G3.out; omega))
        clear o0 o1 rg0 rg1 dj b6
        have n0 : w6.cell? ⟨w.heap.size + 1, 0, none⟩ = some (Value.slice none 0 0) := BQ6.out.1.2 0 (by simp)
        have z0 : w6.frozen? ⟨w.heap.size + 1, 0, none⟩ = false := BQ6.out.2 0 (by simp)
        have n1 : w6.cell? ⟨w.heap.size + 1, 1, none⟩ = some (Value.slice none 0 0) := BQ6.out.1.2 1 (by simp)
        have z1 : w6.frozen? ⟨w.heap.size + 1, 1, none⟩ = false := BQ6.out.2 1 (by simp)
        go_wp2_with ((try simp only [Exit.inBlock, Exit.then]); (with_reducible refine bodyPost_ret (v := .tuple #[.agg #[Value.slice xa hs.length xc, Value.slice ya ds.length yc], .bool false]) ?_ (by exact rfl) ?_); (simp [results, Tryz.results18, go_sem, n0, n1, z0, z1]); (exact ⟨_, _, by rw [HR.out], by rw [HR.out]; exact AM6.out.fin (by omega) (by omega), (HB6.out.setCell (by show w.heap.size ≤ w.heap.size + 1; omega) _).setCell (by show w.heap.size ≤ w.heap.size + 1; omega) _⟩))
      · have hk6' : ((k : Int) == 60) = false := by rw [beq_eq_false_iff_ne]; omega
        have hk60 : k < 60 := by omega
        obtain ⟨o, ho, hol, -, -, hst⟩ := held_first hyo.out HZ.out
        have HF := hid (finA_one (y := (ys, yd)) hyo.out HZ.out)
        have HAs := hid (HA.out.step hk60 HZ.out)
        obtain ⟨FA, hFA⟩ : ∃ FA, Hid (finA ys yd (heldSt ys yd) 2000 = FA) := ⟨_, hid rfl⟩
        rw [hFA.out] at HF
        obtain ⟨H9, hH9⟩ : ∃ H9, Hid (ys[o] = H9) := ⟨_, hid rfl⟩
        have hSt := hid (show heldSt ys yd = [⟨H9.desc_, 0, 0⟩] by rw [hst, hAt_eq hol, hH9.out])
        clear hst
        -- what the region reads
        obtain ⟨g, rfl, rfl, hgs⟩ : ∃ g, ha = some ⟨g, 0, none⟩ ∧ hm = (heldC ys yd).length ∧ w5.ownsRow wr.heap.size 3 1 (.slice (some ⟨g, 0, none⟩) hm hc) hm ((heldC ys yd).flatMap encI) := by
          obtain ⟨h7, h9⟩ := OU.out
          rcases h9 with ⟨h8, h9⟩ | ⟨g9, c9, cs9, h9, h10⟩
          · exact absurd h9 HZ.out
          · simp only [Value.slice.injEq] at h9
            obtain ⟨rfl, rfl, rfl⟩ := h9
            exact ⟨g9, rfl, rfl, h7, .inr ⟨g9, _, cs9, rfl, h10⟩⟩
        have hgR := World.ownsRow.lt hgs g rfl
        have hl0 : 0 < (heldC ys yd).length := by have := HZ.out; omega
        have c0 : w5.cell? ⟨g, 0, none⟩ = some (.int .i64 (o : Int)) := by
          rw [World.ownsRow.cellAt hgs 0 (by omega), encI_get _ 0 hl0]
          rw [List.getElem?_eq_getElem hl0] at ho
          simp only [Option.some.injEq] at ho
          rw [ho]
        have hl0i : (0 : Int) < ((heldC ys yd).length : Int) := by omega
        obtain ⟨S0, S1, p0, p1, g0, g1, d01⟩ := AM5.out
        obtain ⟨g', cap', e', hgS', hgl', -, -, c2, -⟩ := own_head p0 o hol
        simp only [Value.slice.injEq] at e'
        obtain ⟨rfl, -, rfl⟩ := e'
        rw [hH9.out] at c2
        have hg'R := (g0 _ hgS').2.2
        clear p0 p1 g0 g1 d01 hgs OU ho hgS'
        have hoi : (o : Int) < (ys.length : Int) := by omega
        have ho0 : (0 : Int) ≤ (o : Int) := by omega
        have hR5 : w2.heap.size < w5.heap.size := by omega
        have hSW : ∀ b, b = w2.heap.size → b < w5.heap.size := fun b hb => by omega
        have x0 := Go.ExtO.cell (S := fun b => b = w2.heap.size) hR5 (show w5.cell? ⟨w2.heap.size, 0, none⟩ = some (Value.slice (some ⟨g', 0, none⟩) ys.length rc) from BO5.out.1.2 0 (by simp))
        have x1 := Go.ExtO.cell (S := fun b => b = w2.heap.size) hR5 (show w5.cell? ⟨w2.heap.size, 1, none⟩ = some (Value.slice sa yd.length sc) from BO5.out.1.2 1 (by simp))
        have x2 := Go.ExtS.cell (S := fun b => b = w2.heap.size) hgR.2 (by omega) c0
        have x3 := Go.ExtS.cell (S := fun b => b = w2.heap.size) hgl' hg'R c2
        clear c0 c2
        have mk1 : ∀ (P : Program) (o : Oper) (a : Act) (w : World) (v : Value), Oper.plainAt P o a w v = Oper.plainUpon w v ((execOp a.eval o).run P w) := fun _ _ _ _ _ => rfl; have mk2 : ∀ (w w' : World) (v u : Value), Oper.plainUpon w v (.ok (.value u) w') = (w' = w ∧ u = v) := fun _ _ _ _ => rfl
        go_upto_region 11 with fail
        refine Go.wp_region_chg (fun b => b = w2.heap.size) (fun v lo hi w9 => w2.heap.size < w9.heap.size ∧ ∀ cs : Array Value, v = .agg cs → BoxF w9 w2.heap.size cs.toList) [Rel.none, Rel.none, Rel.none, Rel.none, Rel.none, Rel.none, Rel.none, Rel.none, Rel.none, Rel.none, Rel.g1 w5.heap.size (fun u => u) (heldSt ys yd), Rel.g2 w5.heap.size (fun u0 u1 => .tuple #[.agg #[u0, u1], .int .i64 FA.n, .bool FA.b]) FA.x.hs FA.x.ds, Rel.none, Rel.none, Rel.none, Rel.none, Rel.val undef] [[], [], [], [], [], [], [], [], [], [], [], [10], [], [], [], [], [11]] [.look, .plain, .look, .plain, .plain, .plain, .plain, .plain, .plain, .plain, .make, .make, .plain, .plain, .plain, .plain, .change] (by kernel_rfl) (by kernel_rfl) (by kernel_rfl) (by kernel_rfl) (by kernel_rfl) hSW ?hRC ?_
        case hRC =>
          rintro v lo hi w9 w' ⟨h0, h1⟩ h2 hC
          exact ⟨Nat.lt_of_lt_of_le h0 hC.size, fun cs e => (h1 cs e).chg hC fun h => h.2 rfl⟩
        (refine Go.wpR_look rfl rfl (fun K hK => ?_); go_simp; refine hK _ ?_; clear hK K)
        (refine Go.wpR_plain (Go.clsExtS _ _ hSW) rfl rfl (fun K hK => ?_); go_simp; refine hK _ ?_; clear hK K)
        (refine Go.wpR_look rfl rfl (fun K hK => ?_); go_simp; refine hK _ ?_; clear hK K)
        (refine Go.wpR_plain (Go.clsExtS _ _ hSW) rfl rfl (fun K hK => ?_); go_simp; refine hK _ ?_; clear hK K)
        (refine Go.wpR_plain (Go.clsExtS _ _ hSW) rfl rfl (fun K hK => ?_); go_simp; refine hK _ ?_; clear hK K)
        (refine Go.wpR_plain (Go.clsExtS _ _ hSW) rfl rfl (fun K hK => ?_); go_simp; refine hK _ ?_; clear hK K)
        (refine Go.wpR_plain (Go.clsExtS _ _ hSW) rfl rfl (fun K hK => ?_); go_simp; refine hK _ ?_; clear hK K)
        (refine Go.wpR_plain (Go.clsExtS _ _ hSW) rfl rfl (fun K hK => ?_); go_simp; refine hK _ ?_; clear hK K)
        (refine Go.wpR_plain (Go.clsExtS _ _ hSW) rfl rfl (fun K hK => ?_); go_simp; refine hK _ ?_; clear hK K)
        (refine Go.wpR_plain (Go.clsExtS _ _ hSW) rfl rfl (fun K hK => ?_); go_simp; refine hK _ ?_; clear hK K)
        refine Go.wpR_make (Go.clsExtS _ _ hSW) rfl rfl (fun w8 hC hD => ?_) ?_
        · obtain ⟨E, rfl⟩ := hC
          have hrun : ∀ Good : Value → World → Prop, Good (.slice (some ⟨E.w.heap.size, 0, none⟩) 1 1) (E.w.alloc (.cells #[.int .i64 H9.desc_, .int .i64 0, .int .i64 0] 91)) → Oper.madeUpon Tryz.prog Good (.ok (.value (.slice (some ⟨E.w.heap.size, 0, none⟩) 1 1)) (E.w.alloc (.cells #[.int .i64 H9.desc_, .int .i64 0, .int .i64 0] 91))) := fun _ h => h
          go_simp
          have hE := E.h.size
          have hll := owns_litN E.w 91 3 1 #[.int .i64 H9.desc_, .int .i64 0, .int .i64 0] E.w.heap.size (Nat.le_refl _) rfl (by decide)
          exact ⟨(Below.refl _ _).alloc (Nat.le_refl _) _, Rel.g1_of (mk := fun u => u) hE (by rw [hSt.out]; exact ownFrame_of hll) (fun k h => h)⟩
        rintro _ lo10 hi10 ⟨la, lm, lc, rfl⟩
        refine Go.wpR_call (Go.clsExtS _ _ hSW) 41 #[.agg #[Value.slice (some ⟨g', 0, none⟩) ys.length rc, Value.slice sa yd.length sc], .slice la lm lc, .int .i64 2000] (Rel.g2 w5.heap.size (fun u0 u1 => .tuple #[.agg #[u0, u1], .int .i64 FA.n, .bool FA.b]) FA.x.hs FA.x.ds) rfl rfl rfl rfl (fun w => by go_simp) (fun w8 hC hD => ?_) ?_
        · obtain ⟨E, rfl⟩ := hC
          obtain ⟨hlo, S9, hS9, u9, T9, e9, o9, hT9⟩ := (show (Rel.g1 w5.heap.size (fun u => u) (heldSt ys yd)).r _ _ _ _ from (hD 10 (by decide) _ _ _ rfl).1)
          subst e9
          have hAE := (AM5.out.chg E.h).rds
          refine (spec_Finish0 ys yd (heldSt ys yd) _ _ _ 2000 E.w hsm.out.1 hsm.out.2.1 hsm.out.2.2 (by rw [hSt.out]; simp) hAE.1 hAE.2 o9.rds).mono ?_
          rintro e w9 ⟨u0, u1, he, ⟨T0, T1, o0, o1, r0, r1, d⟩, b9⟩
          rw [hFA.out] at he o0 o1
          subst he
          exact ⟨_, rfl, b9, Rel.g2_of (mk := fun u0 u1 => .tuple #[.agg #[u0, u1], .int .i64 FA.n, .bool FA.b]) E.h.size o0 o1 r0 r1 d⟩
        rintro _ lo11 hi11 ⟨ba, bm, bc, ca, cm, cc, rfl⟩
        (refine Go.wpR_plain (Go.clsExtS _ _ hSW) rfl rfl (fun K hK => ?_); go_simp; refine hK _ ?_; clear hK K)
        (refine Go.wpR_plain (Go.clsExtS _ _ hSW) rfl rfl (fun K hK => ?_); go_simp; refine hK _ ?_; clear hK K)
        first | (refine Go.wpR_skip rfl ?_) | (refine Go.wpR_plain (Go.clsExtS _ _ hSW) rfl rfl (fun K hK => ?_); go_simp; refine hK _ ?_; clear hK K)
        first | (refine Go.wpR_skip rfl ?_) | (refine Go.wpR_plain (Go.clsExtS _ _ hSW) rfl rfl (fun K hK => ?_); go_simp; refine hK _ ?_; clear hK K)
        refine Go.wpR_put (.agg #[.slice ba bm bc, .slice ca cm cc]) (fun v lo hi w9 => w2.heap.size < w9.heap.size ∧ ∀ cs : Array Value, v = .agg cs → BoxF w9 w2.heap.size cs.toList) (by rintro w8 w' ⟨E, rfl⟩ hC; exact ⟨⟨w', E.h.trans hC⟩, rfl⟩) rfl rfl rfl rfl (fun v => by first | rfl | (simp [Go.Oper.told]; go_simp)) (fun w8 hC hold => ?_) (fun lo16 hi16 => ?_)
        · obtain ⟨E, rfl⟩ := hC
          have hBx := BO5.out.same (hold _ rfl) E.h.size
          have hset := boxset2 rfl hBx (.slice ba bm bc) (.slice ca cm cc)
          exact ⟨_, (by obtain ⟨z0, z1, kz0, kz1, fz0, fz1⟩ := box_any2 rfl hBx; go_simp), hset.2.1, by rw [hset.2.2]; exact hBx.1.1, (Go.wrote_r hset.1).2⟩
        refine Go.wpR_nil ?_
        intro E hm
        have bx := (hm.one 16 _ _ _ rfl).1.2 _ rfl
        obtain ⟨⟨hlo, S9, hS9, u8, u9, T0, T1, e9, o0, o1, s0, s1, d01⟩, hhi⟩ := (show (Rel.g2 w5.heap.size (fun u0 u1 => .tuple #[.agg #[u0, u1], .int .i64 FA.n, .bool FA.b]) FA.x.hs FA.x.ds).r _ _ _ _ ∧ _ from hm.one 11 _ _ _ rfl)
        simp only [Value.tuple.injEq, Array.mk.injEq, List.cons.injEq, Value.agg.injEq, and_true] at e9
        obtain ⟨rfl, rfl⟩ := e9
        have hC := E.h
        obtain ⟨X, hX⟩ : ∃ X, X = E.w := ⟨_, rfl⟩
        rw [← hX] at bx o0 o1 hC hhi ⊢
        have hXs := hC.size
        have AM7 : Hid (AllMem (w.heap.size + 2) w2.heap.size X (.slice ba bm bc) (.slice ca cm cc) (finOne (ys, yd))) := hid ⟨T0, T1, by rw [← HF.out.1]; exact o0, by rw [← HF.out.2]; exact o1, fun k h => by have := hS9 k (s0 k h); have := G3.out; exact ⟨by omega, by omega, by omega⟩, fun k h => by have := hS9 k (s1 k h); have := G3.out; exact ⟨by omega, by omega, by omega⟩, d01⟩
        have BS7 := hid (BS5.out.chg hC (by have := G3.out; omega))
        have BQ7 := hid (BQ5.out.chg hC (by have := G3.out; omega))
        have BO7 := hid bx
        have HB7 := hid (below_chg HB5.out hC HB5.out.size (fun b hb => by have := G3.out; omega))
        have hR7 : w2.heap.size < X.heap.size := by omega
        clear hX hm E x0 x1 x2 x3 mk1 mk2 bx o0 o1 hC
        go_wp2
        go_roundw
        case rel => exact ⟨k+1, finOne (ys, yd), _, _, by go_num, by omega, HAs, AM7, BS7, BQ7, BO7, HB7, hR7⟩
        case measure => simp [intOf]; omega
end Go.Proofs.YtbbdchlabdilcabGreat
