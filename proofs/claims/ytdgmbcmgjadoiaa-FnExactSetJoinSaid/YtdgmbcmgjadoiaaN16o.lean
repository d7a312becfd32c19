/- Lists of flat data in memory: what the laws' helpers do, in the one form that the laws' walks take (lawgen3.py). -/
import Derived.Test.YtdgmbcmgjadoiaaTypes16
import Derived.Test.YtdgmbcmgjadoiaaEnc2
import Derived.Test.YtdgmbcmgjadoiaaEnc4
namespace Go.Proofs.Ytdgmbcmgjadoiaa
set_option maxRecDepth 100000
open Go.RowKit Go.Proofs Go.Own
set_option linter.unusedVariables false
set_option linter.unusedSimpArgs false
def szR (k n : Int) : Int := if k < n then -1 else k - n
theorem szR_of (k n : Int) : szR k n = if k < n then -1 else k - n := rfl
instance encInt : FlatEnc Int := flatEnc encI 1 3 (fun _ => rfl)
theorem rdsInts {w : World} {v : Value} {xs : List Int} : rdsL w v xs ↔ Ints w v xs := rds_flat
theorem ownInts {S : Nat → Prop} {w : World} {v : Value} {xs : List Int} : ownL S w v xs ↔ w.ownsRow 0 3 1 v xs.length (xs.flatMap encI) ∧ ∀ k, Blk v k → S k := own_flat
theorem ownInt_of {w w' : World} {u : Value} {xs : List Int} (o : w'.ownsRow w.heap.size 3 1 u xs.length (xs.flatMap encI)) : ownL (Rg w.heap.size w'.heap.size) w' u xs := ownInts.2 ⟨owns_base o (fun _ _ => Nat.zero_le _), fun k hk => owns_in o k hk⟩
def IntSB (xs : List Int) : Prop := xs.length ≤ 1048576
def szIntSD (xs : List Int) : Nat := xs.length
def cntIntS (xs : List Int) : Nat := xs.length
def markIntn (k : Int) (i : Nat) : Int := k + i
def markIntSD (xs : List Int) (k : Int) : List Int := (List.range xs.length).map (markIntn k)
theorem markIntSD_len (xs : List Int) (k : Int) : (markIntSD xs k).length = xs.length := by simp [markIntSD]
theorem markIntSD_enc (xs : List Int) (k : Int) : (markIntSD xs k).flatMap encI = markV markI (xs.length) k := by
  apply List.ext_getElem?
  intro t
  have hl : ((markIntSD xs k).flatMap encI).length = xs.length * 1 := by rw [flatMap_len encI 1 (fun _ => rfl), markIntSD_len]
  by_cases h : t < xs.length * 1
  · have e := flatMap_get encI 1 (fun _ => rfl) (markIntSD xs k) (t / 1) (by rw [markIntSD_len]; omega) (t % 1) (by omega)
    rw [show t / 1 * 1 + t % 1 = t by omega] at e
    rw [e, markV_get _ _ _ _ (by omega)]
    have hm : (markIntSD xs k)[t / 1]'(by rw [markIntSD_len]; omega) = markIntn k (t / 1) := by simp [markIntSD]
    rw [hm]
    have h5 : t % 1 < 1 := by omega
    have hq : (t : Int) = 1 * ((t / 1 : Nat) : Int) + ((t % 1 : Nat) : Int) := by omega
    unfold markI markIntn encI
    simp [Nat.mod_one]
  · rw [List.getElem?_eq_none (by omega), List.getElem?_eq_none (by rw [markV_length]; omega)]
theorem cntIntS_le {xs : List Int} (h : IntSB xs) : cntIntS xs ≤ 100000000 := by unfold IntSB at h; unfold cntIntS; omega
theorem toIntS_o (xs : List Int) (v : Value) (w : World) (r : rdsL w v xs) (hb : IntSB xs) :
    Calls Try.prog 13 #[v] w fun e w' => ∃ u : Value, ∃ S : Nat → Prop, e = .returned u ∧ ownL S w' u xs ∧ (∀ b, S b → Rg w.heap.size w'.heap.size b) ∧ Below w.heap.size w w' := by
  refine (toIntS_c v xs w hb (rdsInts.1 r)).mono ?_
  rintro e w' ⟨u, rfl, o, b⟩
  exact ⟨u, _, rfl, ownInt_of o, fun _ h => h, b⟩
theorem eqIntS_o (xs : List Int) (v u : Value) (w : World) (r : rdsL w v xs) (g : rdsL w u xs) :
    Calls Try.prog 16 #[v, u] w fun e w' => e = .returned (.bool true) ∧ Below w.heap.size w w' := eqIntS_c v u xs w (rdsInts.1 r) (rdsInts.1 g)
theorem szIntS_o (xs : List Int) (v : Value) (k : Int) (w : World) (h0 : 0 ≤ k) (h1 : k ≤ 1048576) (r : rdsL w v xs) :
    Calls Try.prog 48 #[v, .int .i64 k] w fun e w' => e = .returned (.int .i64 (szR k (szIntSD xs))) ∧ Below w.heap.size w w' := by
  obtain ⟨a, cap, rfl, hl, hm⟩ := (rdsInts.1 r).form
  refine (szIntS_c a xs.length cap k w (by omega) h0 h1).mono ?_
  rintro e w' ⟨rfl, rfl⟩
  exact ⟨rfl, Below.refl _ _⟩
theorem markIntS_o (S : Nat → Prop) (xs : List Int) (v : Value) (k : Int) (w : World) (hS : ∀ b, S b → b < w.heap.size) (hb : IntSB xs) (h0 : 0 ≤ k) (h1 : k ≤ 1000000000000000) (o : ownL S w v xs) :
    Calls Try.prog 34 #[v, .int .i64 k] w fun r w' => r = .returned (.int .i64 (k + cntIntS xs)) ∧ ownL S w' v (markIntSD xs k) ∧ ChgS S w w' := by
  obtain ⟨r, hbk⟩ := ownInts.1 o
  unfold IntSB at hb
  refine (markIntS_c 0 3 v xs.length _ k w (by omega) h0 (by omega) r).mono ?_
  rintro e w' ⟨rfl, r2, g2⟩
  refine ⟨rfl, ownInts.2 ⟨by rw [markIntSD_len, markIntSD_enc]; exact r2, hbk⟩, ChgS.of_grown g2 fun b e => hbk b e⟩
theorem heldIntS_o (xs : List Int) (v : Value) (k : Int) (w : World) (hb : IntSB xs) (h0 : 0 ≤ k) (h1 : k ≤ 1000000000000000) (r : rdsL w v (markIntSD xs k)) :
    Calls Try.prog 35 #[v, .int .i64 k] w fun r w' => r = .returned (.int .i64 (k + cntIntS xs)) ∧ Below w.heap.size w w' := by
  unfold IntSB at hb
  have h := rdsInts.1 r
  unfold Ints at h
  rw [markIntSD_len, markIntSD_enc] at h
  refine (heldIntS_c v xs.length k w (by omega) h0 (by omega) h).mono ?_
  rintro e w' ⟨he, b⟩
  exact ⟨he, b⟩
end Go.Proofs.Ytdgmbcmgjadoiaa
