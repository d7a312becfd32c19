/- Chapter 7's data in memory: what the laws' helpers do, each in the one form that the laws' walks take (lawgen3.py). -/
import Derived.Test.YtpdgpblekbongaaN7t
namespace Go.Proofs.Ytpdgpblekbongaa
set_option maxRecDepth 100000
open Go.RowKit Go.Proofs Go.Own
set_option linter.unusedVariables false
set_option linter.unusedSimpArgs false
instance encInt : FlatEnc Int := flatEnc encI 1 3 (fun _ => rfl)
theorem rdsInts {w : World} {v : Value} {xs : List Int} : rdsL w v xs ↔ Ints w v xs := rds_flat
theorem ownInts {S : Nat → Prop} {w : World} {v : Value} {xs : List Int} : ownL S w v xs ↔ w.ownsRow 0 3 1 v xs.length (xs.flatMap encI) ∧ ∀ k, Blk v k → S k := own_flat
theorem ownI_of {w w' : World} {u : Value} {xs : List Int} (o : w'.ownsRow w.heap.size 3 1 u xs.length (xs.flatMap encI)) : ownL (Rg w.heap.size w'.heap.size) w' u xs := ownInts.2 ⟨owns_base o (fun _ _ => Nat.zero_le _), fun k hk => owns_in o k hk⟩
theorem szR_of (k n : Int) : szR k n = if k < n then -1 else k - n := rfl
-- a list of ints
def IntSB (xs : List Int) : Prop := xs.length ≤ 1048576
def szIntSD (xs : List Int) : Nat := xs.length
def cntIntS (xs : List Int) : Nat := xs.length
def markIntSD (xs : List Int) (k : Int) : List Int := (List.range xs.length).map fun i : Nat => k + (i : Int)
theorem markIs_enc (xs : List Int) (k : Int) : (markIntSD xs k).flatMap encI = markV markI xs.length k := by
  unfold markIntSD markV
  rw [encI_map, List.map_map]
  rfl
theorem markIs_len (xs : List Int) (k : Int) : (markIntSD xs k).length = xs.length := by simp [markIntSD]
theorem cntIntS_le {xs : List Int} (h : IntSB xs) : cntIntS xs ≤ 100000000 := by unfold IntSB at h; unfold cntIntS; omega
theorem toIntS_o (xs : List Int) (v : Value) (w : World) (r : rdsL w v xs) (hb : IntSB xs) :
    Calls Try.prog 16 #[v] w fun e w' => ∃ u : Value, ∃ S : Nat → Prop, e = .returned u ∧ ownL S w' u xs ∧ (∀ b, S b → Rg w.heap.size w'.heap.size b) ∧ Below w.heap.size w w' := by
  refine (toIntS_c v xs w hb (rdsInts.1 r)).mono ?_
  rintro e w' ⟨u, rfl, o, b⟩
  exact ⟨u, _, rfl, ownI_of o, fun _ h => h, b⟩
theorem eqIntS_o (xs : List Int) (v u : Value) (w : World) (r : rdsL w v xs) (g : rdsL w u xs) :
    Calls Try.prog 18 #[v, u] w fun e w' => e = .returned (.bool true) ∧ Below w.heap.size w w' := eqIntS_c v u xs w (rdsInts.1 r) (rdsInts.1 g)
theorem markIntS_o (S : Nat → Prop) (xs : List Int) (v : Value) (k : Int) (w : World) (hS : ∀ b, S b → b < w.heap.size) (hb : IntSB xs) (h0 : 0 ≤ k) (h1 : k ≤ 1000000000000) (o : ownL S w v xs) :
    Calls Try.prog 19 #[v, .int .i64 k] w fun r w' => r = .returned (.int .i64 (k + cntIntS xs)) ∧ ownL S w' v (markIntSD xs k) ∧ ChgS S w w' := by
  obtain ⟨r, hbk⟩ := ownInts.1 o
  unfold IntSB at hb
  refine (markIntS_c 0 3 v xs.length _ k w (by omega) h0 (by omega) r).mono ?_
  rintro e w' ⟨rfl, r2, g2⟩
  exact ⟨rfl, ownInts.2 ⟨by rw [markIs_len, markIs_enc]; exact r2, hbk⟩, ChgS.of_grown g2 fun b e => hbk b e⟩
theorem heldIntS_o (xs : List Int) (v : Value) (k : Int) (w : World) (hb : IntSB xs) (h0 : 0 ≤ k) (h1 : k ≤ 1000000000000) (r : rdsL w v (markIntSD xs k)) :
    Calls Try.prog 39 #[v, .int .i64 k] w fun r w' => r = .returned (.int .i64 (k + cntIntS xs)) ∧ Below w.heap.size w w' := by
  unfold IntSB at hb
  have h := rdsInts.1 r
  unfold Ints at h
  rw [markIs_len, markIs_enc] at h
  exact heldIntS_c v xs.length k w (by omega) h0 (by omega) h
-- a descriptor
def DescB (d : DescD) : Prop := d.entries_.length ≤ 1048576
def szDescD (d : DescD) : Nat := d.entries_.length
def cntDesc (d : DescD) : Nat := 5 * d.entries_.length
def markDescD (d : DescD) (k : Int) : DescD := ⟨d.owner_, d.status_, markEs k d.entries_.length⟩
theorem cntDesc_le {d : DescD} (h : DescB d) : cntDesc d ≤ 100000000 := by unfold DescB at h; unfold cntDesc; omega
theorem toDesc_o (d : DescD) (v2 : Value) (w : World) (r2 : rdsL w v2 d.entries_) (hb : DescB d) :
    Calls Try.prog 27 #[.agg #[.int .i64 d.owner_, .int .i64 d.status_, v2]] w fun e w' => ∃ u2 : Value, ∃ S2 : Nat → Prop, e = .returned (.agg #[.int .i64 d.owner_, .int .i64 d.status_, u2]) ∧ ownL S2 w' u2 d.entries_ ∧ (∀ b, S2 b → Rg w.heap.size w'.heap.size b) ∧ Below w.heap.size w w' := by
  refine (toDesc_v d v2 w r2 hb).mono ?_
  rintro e w' ⟨u, rfl, o, b⟩
  exact ⟨u, _, rfl, o, fun _ h => h, b⟩
theorem eqDesc_o (d : DescD) (v2 u2 : Value) (w : World) (r2 : rdsL w v2 d.entries_) (g2 : rdsL w u2 d.entries_) :
    Calls Try.prog 29 #[.agg #[.int .i64 d.owner_, .int .i64 d.status_, v2], .agg #[.int .i64 d.owner_, .int .i64 d.status_, u2]] w fun e w' => e = .returned (.bool true) ∧ Below w.heap.size w w' := eqDesc_v d v2 u2 w r2 g2
theorem szDesc_o (d : DescD) (v2 : Value) (k : Int) (w : World) (h0 : 0 ≤ k) (h1 : k ≤ 1048576) (r2 : rdsL w v2 d.entries_) :
    Calls Try.prog 25 #[.agg #[.int .i64 d.owner_, .int .i64 d.status_, v2], .int .i64 k] w fun e w' => e = .returned (.int .i64 (szR k (szDescD d))) ∧ Below w.heap.size w w' := by
  obtain ⟨a, cap, rfl, hl, hm⟩ := (rdsEntrys.1 r2).form
  refine (szDesc_c _ _ a d.entries_.length cap k w (by omega) h0 h1).mono ?_
  rintro e w' ⟨rfl, b⟩
  exact ⟨rfl, b⟩
theorem markDesc_o (S2 : Nat → Prop) (d : DescD) (v2 : Value) (k : Int) (w : World) (hS : ∀ b, S2 b → b < w.heap.size) (hb : DescB d) (h0 : 0 ≤ k) (h1 : k ≤ 1000000000000) (o2 : ownL S2 w v2 d.entries_) :
    Calls Try.prog 30 #[.agg #[.int .i64 d.owner_, .int .i64 d.status_, v2], .int .i64 k] w fun r w' => r = .returned (.int .i64 (k + cntDesc d)) ∧ ownL S2 w' v2 (markDescD d k).entries_ ∧ ChgS S2 w w' := by
  obtain ⟨r, hbk⟩ := ownEntrys.1 o2
  unfold DescB at hb
  refine (markDesc_c 0 d.owner_ d.status_ v2 d.entries_.length _ k w (by omega) h0 (by omega) r).mono ?_
  rintro e w' ⟨rfl, r2, g2⟩
  refine ⟨by unfold cntDesc; exact ret_int (by omega), ownEntrys.2 ⟨?_, hbk⟩, ChgS.of_grown g2 fun b e => hbk b e⟩
  show w'.ownsRow 0 _ 5 v2 (markEs k d.entries_.length).length ((markEs k d.entries_.length).flatMap Entry.enc)
  rw [markEs_len, markEs_enc]; exact r2
-- a store
def StoreB (s : StoreD) : Prop := s.heads_.length + szD s.descs_ ≤ 1048576
def szStoreD (s : StoreD) : Nat := s.heads_.length + szD s.descs_
theorem storeB_parts {s : StoreD} (h : StoreB s) : s.heads_.length ≤ 1048576 ∧ s.descs_.length ≤ 1048576 ∧ (∀ i, (hi : i < s.descs_.length) → s.descs_[i].entries_.length ≤ 1048576) ∧ eSum s.descs_ ≤ 1048576 := by
  unfold StoreB szD at h
  refine ⟨by omega, by omega, fun i hi => ?_, by omega⟩
  have := eSum_at s.descs_ i hi
  omega
theorem cntDs_eq (xs : List DescD) : cntDs xs = 2 * xs.length + 5 * eSum xs := by
  induction xs with
  | nil => rfl
  | cons d ds ih =>
    unfold cntDs eSum at ih ⊢
    simp only [List.map_cons, List.sum_cons, List.length_cons, ih]
    unfold cntD
    omega
theorem cntS_le {s : StoreD} (h : StoreB s) : cntS s ≤ 100000000 := by
  unfold StoreB szD at h
  unfold cntS
  rw [cntDs_eq]
  omega
theorem toStore_o (s : StoreD) (v0 v1 : Value) (w : World) (r0 : rdsL w v0 s.heads_) (r1 : rdsL w v1 s.descs_) (hb : StoreB s) :
    Calls Try.prog 12 #[.agg #[v0, v1]] w fun e w' => ∃ u0 u1 : Value, ∃ S0 S1 : Nat → Prop, e = .returned (.agg #[u0, u1]) ∧ ownL S0 w' u0 s.heads_ ∧ ownL S1 w' u1 s.descs_ ∧ (∀ k, S0 k → Rg w.heap.size w'.heap.size k) ∧ (∀ k, S1 k → Rg w.heap.size w'.heap.size k) ∧ (∀ k, S0 k → ¬ S1 k) ∧ Below w.heap.size w w' := by
  obtain ⟨h0, h1, h2, _⟩ := storeB_parts hb
  exact toStore_v s v0 v1 w h0 h1 h2 r0 r1
theorem eqStore_o (s : StoreD) (v0 v1 u0 u1 : Value) (w : World) (r0 : rdsL w v0 s.heads_) (r1 : rdsL w v1 s.descs_) (g0 : rdsL w u0 s.heads_) (g1 : rdsL w u1 s.descs_) :
    Calls Try.prog 14 #[.agg #[v0, v1], .agg #[u0, u1]] w fun e w' => e = .returned (.bool true) ∧ Below w.heap.size w w' := eqStore_v s v0 v1 u0 u1 w r0 r1 g0 g1
theorem szStore_o (s : StoreD) (v0 v1 : Value) (k : Int) (w : World) (h0 : 0 ≤ k) (h1 : k ≤ 1048576) (r0 : rdsL w v0 s.heads_) (r1 : rdsL w v1 s.descs_) :
    Calls Try.prog 10 #[.agg #[v0, v1], .int .i64 k] w fun e w' => e = .returned (.int .i64 (szR k (szStoreD s))) ∧ Below w.heap.size w w' := by
  refine (szStore_v s v0 v1 k w h0 h1 r0 r1).mono ?_
  rintro e w' ⟨rfl, b⟩
  exact ⟨by unfold szStoreD; exact ret_int (by rw [Int.natCast_add]), b⟩
theorem markStore_o (S0 S1 : Nat → Prop) (s : StoreD) (v0 v1 : Value) (k : Int) (w : World) (hS0 : ∀ b, S0 b → b < w.heap.size) (hS1 : ∀ b, S1 b → b < w.heap.size) (hd : ∀ b, S0 b → ¬ S1 b) (hb : StoreB s) (h0 : 0 ≤ k) (h1 : k ≤ 1000000000000) (o0 : ownL S0 w v0 s.heads_) (o1 : ownL S1 w v1 s.descs_) :
    Calls Try.prog 20 #[.agg #[v0, v1], .int .i64 k] w fun r w' => r = .returned (.int .i64 (k + cntS s)) ∧ ownL S0 w' v0 (markS s k).heads_ ∧ ownL S1 w' v1 (markS s k).descs_ ∧ ChgS (fun b => S0 b ∨ S1 b) w w' := by
  obtain ⟨h2, h3, h4, _⟩ := storeB_parts hb
  have := cntS_le hb
  exact markStore_v S0 S1 s v0 v1 k w hS0 hS1 hd (by omega) (fun i hi => by have := h4 i hi; omega) h0 (by omega) o0 o1
theorem heldStore_o (s : StoreD) (v0 v1 : Value) (k : Int) (w : World) (hb : StoreB s) (h0 : 0 ≤ k) (h1 : k ≤ 1000000000000) (r0 : rdsL w v0 (markS s k).heads_) (r1 : rdsL w v1 (markS s k).descs_) :
    Calls Try.prog 21 #[.agg #[v0, v1], .int .i64 k] w fun r w' => r = .returned (.int .i64 (k + cntS s)) ∧ Below w.heap.size w w' := by
  obtain ⟨h2, h3, h4, _⟩ := storeB_parts hb
  have := cntS_le hb
  exact heldStore_v s v0 v1 k w (by omega) (fun i hi => by have := h4 i hi; omega) h0 (by omega) r0 r1
def markStoreD (s : StoreD) (k : Int) : StoreD := markS s k
def cntStore (s : StoreD) : Nat := cntS s
theorem cntStore_le {s : StoreD} (h : StoreB s) : cntStore s ≤ 100000000 := cntS_le h
end Go.Proofs.Ytpdgpblekbongaa
