/- Chapter 7's data in memory: stores marked and found marked. -/
import Derived.Test.YtpdgpblekbongaaN7s
namespace Go.Proofs.Ytpdgpblekbongaa
set_option maxRecDepth 100000
open Go.RowKit Go.Proofs Go.Own
set_option linter.unusedVariables false
set_option linter.unusedSimpArgs false
def markHn (k : Int) (i : Nat) : Head := ⟨k + 3 * i, k + 3 * i + 1, k + 3 * i + 2⟩
def markHs (k : Int) (n : Nat) : List Head := (List.range n).map (markHn k)
theorem markHs_len (k : Int) (n : Nat) : (markHs k n).length = n := by simp [markHs]
theorem markHs_enc (k : Int) (n : Nat) : (markHs k n).flatMap Head.enc = markV markI (n * 3) k := by
  apply List.ext_getElem?
  intro t
  have hl : ((markHs k n).flatMap Head.enc).length = n * 3 := by rw [flatMap_len Head.enc 3 (fun _ => rfl), markHs_len]
  by_cases h : t < n * 3
  · have e := flatMap_get Head.enc 3 (fun _ => rfl) (markHs k n) (t / 3) (by rw [markHs_len]; omega) (t % 3) (by omega)
    rw [show t / 3 * 3 + t % 3 = t by omega] at e
    rw [e, markV_get _ _ _ _ h]
    have hm : (markHs k n)[t / 3]'(by rw [markHs_len]; omega) = markHn k (t / 3) := by simp [markHs]
    rw [hm]
    have h5 : t % 3 < 3 := by omega
    have hq : (t : Int) = 3 * ((t / 3 : Nat) : Int) + ((t % 3 : Nat) : Int) := by omega
    unfold markI markHn Head.enc
    generalize t % 3 = r at *
    match r, h5 with
    | 0, _ => simp; omega
    | 1, _ => simp; omega
    | 2, _ => simp; omega
  · rw [List.getElem?_eq_none (by omega), List.getElem?_eq_none (by rw [markV_length]; omega)]
def markS (s : StoreD) (k : Int) : StoreD := ⟨markHs k s.heads_.length, markDs s.descs_ (k + 3 * s.heads_.length)⟩
def cntS (s : StoreD) : Nat := 3 * s.heads_.length + cntDs s.descs_
set_option maxHeartbeats 2000000 in
theorem markStore_v (S0 S1 : Nat → Prop) (s : StoreD) (v0 v1 : Value) (k : Int) (w : World) (hS0 : ∀ b, S0 b → b < w.heap.size) (hS1 : ∀ b, S1 b → b < w.heap.size) (hd : ∀ b, S0 b → ¬ S1 b) (hn0 : s.heads_.length ≤ 1099511627776) (hn : ∀ i, (h : i < s.descs_.length) → s.descs_[i].entries_.length ≤ 1099511627776) (h0 : 0 ≤ k) (h1 : k + cntS s ≤ 1125899906842624) (o0 : ownL S0 w v0 s.heads_) (o1 : ownL S1 w v1 s.descs_) :
    Calls Try.prog 20 #[.agg #[v0, v1], .int .i64 k] w fun r w' => r = .returned (.int .i64 (k + cntS s)) ∧ ownL S0 w' v0 (markS s k).heads_ ∧ ownL S1 w' v1 (markS s k).descs_ ∧ ChgS (fun b => S0 b ∨ S1 b) w w' := by
  have hcnt := hid (show (cntS s : Int) = 3 * s.heads_.length + cntDs s.descs_ by unfold cntS; omega)
  obtain ⟨W1, hW1⟩ : ∃ X, w.alloc (.cells #[v0, v1] 31) = X := ⟨_, rfl⟩
  have hB1 : Below w.heap.size w W1 := by rw [← hW1]; exact (Below.refl _ _).alloc (Nat.le_refl _) _
  have hN : W1.heap.size = w.heap.size + 1 := by rw [← hW1]; simp
  have bx : BoxF W1 w.heap.size [v0, v1] := by rw [← hW1]; exact BoxF.alloc _ _ _
  have k0 : W1.cell? ⟨w.heap.size, 0, none⟩ = some v0 := by rw [← hW1]; simp [go_sem]
  have k1 : W1.cell? ⟨w.heap.size, 1, none⟩ = some v1 := by rw [← hW1]; simp [go_sem]
  have p0 : ownL S0 W1 v0 s.heads_ := o0.keep fun b hb => hB1.block b (hS0 b hb)
  have p1 : ownL S1 W1 v1 s.descs_ := o1.keep fun b hb => hB1.block b (hS1 b hb)
  obtain ⟨r0, hb0⟩ := ownHeads.1 p0
  obtain ⟨va, vm, vc, rfl⟩ := owns_form3 r0
  obtain ⟨da, dc, rfl, -, -⟩ := ownL_len o1
  have R0 := hid r0
  have P1 := hid p1
  have HS0 := hid hS0
  have HS1 := hid hS1
  have Hn := hid hn
  have hkk : k ≤ 1125899906842624 := by have := hcnt.out; omega
  clear o0 o1 p0 p1 r0 hS0 hS1 hn
  go_enter Try.func20, Try.ntmps20
  go_wp2_with fail
  clear hW1
  refine (markHeadS_c 0 44 _ s.heads_.length _ k W1 hn0 h0 hkk R0.out).mono ?_
  rintro e w2 ⟨rfl, r2, g2⟩
  have hs2 := g2.size
  have hno : ∀ b, ¬ S0 b → ¬ (Value.slice va vm vc).ownBlock = some b := fun b hb e => hb (hb0 b e)
  have bx2 := bx.grown g2 (hno _ (fun e => by have := HS0.out _ e; omega))
  have l1 : w2.cell? ⟨w.heap.size, 1, none⟩ = some (Value.slice da s.descs_.length dc) := bx2.1.2 1 (by simp)
  have p2 : ownL S1 w2 (Value.slice da s.descs_.length dc) s.descs_ := P1.out.keep fun b hb => g2.block b (by have := HS1.out b hb; omega) fun e => hno b (fun e2 => hd b e2 hb) e.symm
  have c2 : ChgS (fun b => S0 b ∨ S1 b) w w2 := (ChgS.of_below hB1 _).trans (ChgS.of_grown g2 fun b hb => .inl (hb0 b hb))
  have P2 := hid p2
  have R2 := hid r2
  have hk3 : 0 ≤ k + 3 * (s.heads_.length : Int) := by omega
  have hk4 : k + 3 * (s.heads_.length : Int) + (cntDs s.descs_ : Int) ≤ 1125899906842624 := by have := hcnt.out; omega
  have hS1b : ∀ b, S1 b → b < w2.heap.size := fun b hb => by have := HS1.out b hb; omega
  clear p2 r2 g2 bx bx2 k0 k1
  go_wp2_with fail
  refine (markDescS_v S1 _ s.descs_ (k + 3 * s.heads_.length) w2 hS1b Hn.out hk3 hk4 P2.out).mono ?_
  rintro e w3 ⟨rfl, p3, c3⟩
  have P3 := hid p3
  have C3 := hid (c2.trans (c3.mono fun b hb => .inr hb))
  have R3 := hid (show ownL S0 w3 (Value.slice va vm vc) (markHs k s.heads_.length) from ownHeads.2 ⟨by
    rw [markHs_len, markHs_enc]
    exact owns_same R2.out fun b hb => c3.block b (by have := HS0.out b (hb0 b hb); omega) (hd b (hb0 b hb)), hb0⟩)
  clear p3 c3 hS1b hno
  go_wp2
  go_ret
  exact ⟨ret_int (by rw [hcnt.out]; omega), R3.out, P3.out, C3.out⟩
set_option maxHeartbeats 2000000 in
theorem heldStore_v (s : StoreD) (v0 v1 : Value) (k : Int) (w : World) (hn0 : s.heads_.length ≤ 1099511627776) (hn : ∀ i, (h : i < s.descs_.length) → s.descs_[i].entries_.length ≤ 1099511627776) (h0 : 0 ≤ k) (h1 : k + cntS s ≤ 1125899906842624) (r0 : rdsL w v0 (markS s k).heads_) (r1 : rdsL w v1 (markS s k).descs_) :
    Calls Try.prog 21 #[.agg #[v0, v1], .int .i64 k] w fun r w' => r = .returned (.int .i64 (k + cntS s)) ∧ Below w.heap.size w w' := by
  have hcnt := hid (show (cntS s : Int) = 3 * s.heads_.length + cntDs s.descs_ by unfold cntS; omega)
  obtain ⟨W1, hW1⟩ : ∃ X, w.alloc (.cells #[v0, v1] 31) = X := ⟨_, rfl⟩
  have hB1 : Below w.heap.size w W1 := by rw [← hW1]; exact (Below.refl _ _).alloc (Nat.le_refl _) _
  have hN : W1.heap.size = w.heap.size + 1 := by rw [← hW1]; simp
  have k0 : W1.cell? ⟨w.heap.size, 0, none⟩ = some v0 := by rw [← hW1]; simp [go_sem]
  have k1 : W1.cell? ⟨w.heap.size, 1, none⟩ = some v1 := by rw [← hW1]; simp [go_sem]
  obtain ⟨a0, cap0, rfl, -, -⟩ := (rdsHeads.1 r0).form
  obtain ⟨a1, cap1, rfl, -, -, -⟩ := rdsL_open r1
  have q0 := hid (show Flat W1 (Value.slice a0 (markS s k).heads_.length cap0) s.heads_.length 3 (markV markI (s.heads_.length * 3) k) by
    have h := rdsHeads.1 (rdsL.below r0 hB1)
    unfold Heads at h
    have e1 : (markS s k).heads_ = markHs k s.heads_.length := rfl
    rw [e1, markHs_len, markHs_enc] at h
    rw [e1, markHs_len]
    exact h)
  have q1 := hid (show rdsL W1 (Value.slice a1 (markS s k).descs_.length cap1) (markDs s.descs_ (k + 3 * s.heads_.length)) from rdsL.below r1 hB1)
  have Hn := hid hn
  have hkk : k ≤ 1125899906842624 := by have := hcnt.out; omega
  generalize (markS s k).heads_.length = n0 at *
  generalize (markS s k).descs_.length = n1 at *
  clear r0 r1 hn
  go_enter Try.func21, Try.ntmps21
  go_wp2_with fail
  clear hW1
  refine (heldHeadS_c _ s.heads_.length k W1 hn0 h0 hkk q0.out).mono ?_
  rintro e w2 ⟨rfl, b2⟩
  have hB2 := hB1.trans (b2.mono hB1.size)
  have l1 := (b2.cell (p := ⟨w.heap.size, 1, none⟩) (show w.heap.size < _ by omega)).trans k1
  have q2 := hid (rdsL.below q1.out b2)
  have hk3 : 0 ≤ k + 3 * (s.heads_.length : Int) := by omega
  have hk4 : k + 3 * (s.heads_.length : Int) + (cntDs s.descs_ : Int) ≤ 1125899906842624 := by have := hcnt.out; omega
  have hk5 : ¬ (k + 3 * (s.heads_.length : Int) < 0) := by omega
  clear k0 k1 q0 q1
  go_wp2_with fail
  refine (heldDescS_v _ s.descs_ (k + 3 * s.heads_.length) w2 Hn.out hk3 hk4 q2.out).mono ?_
  rintro e w3 ⟨rfl, b3⟩
  have hB3 := hB2.trans (b3.mono hB2.size)
  have hk6 : ¬ (k + 3 * (s.heads_.length : Int) + (cntDs s.descs_ : Int) < 0) := by omega
  go_wp2
  go_ret
  exact ⟨ret_int (by rw [hcnt.out]; omega), hB3⟩
end Go.Proofs.Ytpdgpblekbongaa
