/- Chapter 12's model: OrdersOf. -/
import Derived.Test.YtbbdchlabdilcaaS12o
namespace Go.Proofs.Ytbbdchlabdilcaa
set_option maxRecDepth 100000
open Go.RowKit Go.Proofs Go.Own Go.Ord
open Go Go.BigFrame
set_option linter.unusedVariables false
set_option linter.unusedSimpArgs false
theorem args12_most {fs : List Int} {ds : List DescD} {k : Int} (h : args12 fs ds k = true) : (ds.length : Int) ≤ k := by
  unfold args12 at h
  simp only [Bool.and_eq_true] at h
  have z := h.1.2
  simp at z
  omega
theorem encB_rep : ∀ n : Nat, (List.replicate n false).flatMap encB = List.replicate n (Value.bool false)
  | 0 => rfl
  | n+1 => by
    rw [List.replicate_succ, List.flatMap_cons, encB_rep n, List.replicate_succ]; rfl
theorem own_lt {w : World} {v : Value} {n sz : Nat} {cs : List Value} (h : Flat w v n sz cs) (b : Nat) (hb : v.ownBlock = some b) (hn : 0 < n) : b < w.heap.size := by
  obtain ⟨hl, a, cap, rfl, h1, h2, h0, h3⟩ := h
  rcases h3 with h3 | ⟨b', off, rfl, hs, hc⟩
  · omega
  · have e : b' = b := Option.some.inj hb
    omega
theorem ords_le {fs : List Int} {ds : List DescD} (h : ds.length ≤ 6) : cntF canD dovD ds ds.length fs (List.replicate ds.length false) ≤ 720 :=
  Nat.le_trans (cntF_le (by simp) (by rw [live_none])) (facN_le6 h)
set_option maxHeartbeats 8000000 in
theorem spec_OrdersOf0 (fs : List Int) (ds : List DescD) (v0 v1 : Value) (w : World) (r0 : rdsL w v0 fs) (r1 : rdsL w v1 ds) :
    Calls Try.prog 15 #[v0, v1] w fun e w' => e = .returned (.tuple #[.int .i64 (ordC fs ds), .bool (args12 fs ds 6)]) ∧ Below w.heap.size w w' := by
  obtain ⟨i0, hi, hz0, hz1, hz2⟩ := info_parts infoBool12
  have R0 := hid r0
  have R1 := hid r1
  obtain ⟨a0, cap0, rfl, hl0, hm0, -⟩ := rdsL_open r0
  obtain ⟨a1, cap1, rfl, hl1, hm1, -⟩ := rdsL_open r1
  have Hs := hid (show ordC fs ds = if args12 fs ds 6 = true then ((cntF canD dovD ds ds.length fs (List.replicate ds.length false) : Nat) : Int) else 0 from rfl)
  have Hp := hid (fun (h : args12 fs ds 6 = true) => And.intro (args12_parts h) (args12_most h))
  have Hcall := hid (spec_l12Args0 fs ds 6 _ _ w (rdsInts.1 r0) r1)
  generalize ordC fs ds = OC at *
  generalize args12 fs ds 6 = R at *
  clear r0 r1
  go_enter Try.func15, Try.ntmps15
  go_wp2_with fail
  refine Hcall.out.mono ?_
  rintro e w2 ⟨rfl, b2⟩
  have HB2 := hid b2
  cases R with
  | false =>
    have hn : OC = 0 := by rw [Hs.out]; simp
    subst hn
    clear Hs Hp Hcall
    go_wp2
    go_ret2
    exact ⟨rfl, HB2.out⟩
  | true =>
  obtain ⟨⟨hf, hen⟩, hd6⟩ := Hp.out (by first | exact rfl | trivial)
  have hd6 : ds.length ≤ 6 := by omega
  have HEN := hid hen
  have hn : OC = ((cntF canD dovD ds ds.length fs (List.replicate ds.length false) : Nat) : Int) := by rw [Hs.out]; simp
  subst hn
  clear Hs Hp hen Hcall
  go_wp2_with (at_make; refine wpList_make_full _ rfl _ _ 55 rfl (w2.heap.size) 4 i0 (.bool false) 1 Try.underlying55 hi hz0 hz1 _ _ _ _ ds.length rfl rfl rfl rfl (by rw [hz2]; omega) (by unfold maxLen; omega) (Nat.le_refl _) ?_)
  intro w3 hown hgrow
  have hB := (Below.refl w2.heap.size w2).grown hgrow (Nat.le_refl _) (by simp)
  have HB3 := hid (HB2.out.trans (hB.mono HB2.out.size))
  have hs2 := HB2.out.size
  have hO : w3.ownsRow w2.heap.size 4 1 (.slice (some ⟨w2.heap.size, 0, none⟩) ds.length ds.length) ds.length ((List.replicate ds.length false).flatMap encB) := by
    rw [encB_rep]; have z := hown; rw [toList_madeCells_one] at z; simpa using z
  have Hc := hid (spec_l12Count0 ds fs.length ds.length w2.heap.size ds.length w2.heap.size a1 cap1 w rfl hd6 hf hs2 HEN.out ds.length fs (.slice a0 fs.length cap0) (List.replicate ds.length false) w3 rfl hd6 (by simp) (by rw [live_none]) (rdsInts.1 (rdsL.below R0.out HB3.out)) (fun b hb => by have z := own_lt (rdsInts.1 R0.out) b hb (by omega); omega) HB3.out (descsAt_of R1.out HB3.out hs2) hO)
  have Hbd := hid (ords_le (fs := fs) hd6)
  clear hown hgrow hO hB
  go_wp2_with fail
  refine Hc.out.mono ?_
  rintro e w4 ⟨rfl, -, C4⟩
  have HF := hid (below_chg HB3.out C4 HB3.out.size (fun b hb => by omega))
  clear C4 Hc
  go_wp2
  go_ret2
  exact ⟨rfl, HF.out⟩
set_option maxHeartbeats 4000000 in
theorem impl_factorial (m : Nat) (hm : m ≤ 6) (w : World) :
    Calls Try.prog 29 #[.int .i64 (m : Int)] w fun e w' => e = .returned (.int .i64 ((facN m : Nat) : Int)) ∧ w = w' := by
  have Hb := hid (fun k (hk : k ≤ 6) => facN_le6 hk)
  have Hs := hid (fun k => show facN (k+1) = (k+1) * facN k from rfl)
  go_enter Try.func29, Try.ntmps29
  go_wp2
  go_loop [6, 3] (fun i a => ∃ k : Nat, k ≤ m ∧ i = .int .i64 k ∧ a = .int .i64 ((facN k : Nat) : Int)) (fun i _ => m - (intOf i).toNat)
  case atStart => exact ⟨0, by omega, rfl, rfl⟩
  case round =>
    obtain ⟨k, hk, rfl, rfl⟩ := hrel
    by_cases hlt : k < m
    · have h1 := Hb.out (k+1) (by omega)
      have h2 := Hs.out k
      have he := hid (show ((facN k : Nat) : Int) * ((k : Int) + 1) = ((facN (k+1) : Nat) : Int) by rw [h2, Int.natCast_mul, Int.mul_comm]; congr 1)
      have hb : ((facN k : Nat) : Int) * ((k : Int) + 1) ≤ 720 := by rw [he.out]; omega
      have hb0 : (0 : Int) ≤ ((facN k : Nat) : Int) * ((k : Int) + 1) := by rw [he.out]; omega
      clear h1 h2
      generalize facN k = f at *
      go_wp2
      go_round
      case rel => exact ⟨k+1, by omega, by go_num, by rw [← he.out]⟩
      case measure => simp [intOf]; omega
    · obtain rfl : k = m := by omega
      go_wp2
      go_ret
      exact ⟨rfl, rfl⟩
end Go.Proofs.Ytbbdchlabdilcaa
