/- Chapter 11's data in memory: threads in a list, found marked. (printed by tools/mk_n11m.py) -/
import Derived.Test.YtbbdchlabdilcaaGreatN11m
namespace Go.Proofs.YtbbdchlabdilcaaGreat
set_option maxRecDepth 100000
open Go.RowKit Go.Proofs Go.Own
set_option linter.unusedVariables false
set_option linter.unusedSimpArgs false
set_option maxHeartbeats 16000000 in
theorem heldThreadS_v (v : Value) (xs : List ThreadD) (k : Int) (w : World) (hn : ∀ i, (h : i < xs.length) → ThreadB xs[i]) (h0 : 0 ≤ k) (h1 : k + cntThreadS xs ≤ 1000000000000) (h : rdsL w v (markThreadSD xs k)) :
    Calls Tryz.prog 127 #[v, .int .i64 k] w fun r w' => r = .returned (.int .i64 (k + cntThreadS xs)) ∧ Below w.heap.size w w' := by
  obtain ⟨a, cap, rfl, hl, hm, hc⟩ := rdsL_open h
  clear h
  have Hn := hid hn
  have HC := hid hc
  clear hn hc
  rw [markThs_len] at hl
  have hML := hid (markThs_len xs k)
  have hlen : xs.length ≤ 9223372036854775807 := by omega
  rw [hML.out]
  go_enter Tryz.func127, Tryz.ntmps127
  go_wp2
  go_loopw [1, 5] (fun kk i wr => ∃ j : Nat, j ≤ xs.length ∧ i = .int .i64 j ∧ kk = .int .i64 (k + cntThreadS (xs.take j)) ∧ Below w.heap.size w wr) (fun _ i _ => xs.length - (intOf i).toNat)
  case atStart => exact ⟨0, by omega, rfl, by simp [cntThreadS], Below.refl _ _⟩
  case round =>
    obtain ⟨j, hj, rfl, rfl, hB⟩ := hrel
    by_cases hlt : j < xs.length
    · obtain ⟨bb, off, cs, rfl, hbs, hel, hcell⟩ := HC.out j (by rw [hML.out]; exact hlt)
      rw [markThs_get xs k j hlt] at hel
      obtain ⟨v0, v1, v2, rfl, r0, r1, r2⟩ := hel
      obtain ⟨hb0, hb1, hb2⟩ := threadB_parts (Hn.out j hlt)
      have hc0 := cntInstrS_le hb0
      have hc1 := cntEntryS_le hb1
      have hc2 := cntFrameS_le hb2
      have hK2 := cntThs_take xs j hlt
      have hK3 := cntThs_take_le xs (j+1)
      have hK0 : 0 ≤ k + (cntThreadS (xs.take j) : Int) := by omega
      have hK1 : k + (cntThreadS (xs.take j) : Int) ≤ 1000000000000 := by omega
      unfold markTh at hcell r0 r1 r2
      dsimp only at hcell r0 r1 r2
      generalize hKd : k + (cntThreadS (xs.take j) : Int) = K at *
      have hq1 : K + 1 + (cntInstrS xs[j].prog_ : Int) = kTh1 xs[j] K := rfl
      have hq2 : kTh1 xs[j] K + 5 + (cntEntryS xs[j].open_ : Int) = kTh2 xs[j] K := rfl
      have hq3 : kTh2 xs[j] K + 1 + (cntFrameS xs[j].stack_ : Int) = kTh3 xs[j] K := rfl
      have hq4 : kTh3 xs[j] K + 4 = K + (cntTh xs[j] : Int) := kTh_end _ _
      generalize kTh3 xs[j] K = K3 at *
      generalize kTh2 xs[j] K = K2 at *
      generalize kTh1 xs[j] K = K1 at *
      have b1a : 0 ≤ K1 := by omega
      have b1b : K1 ≤ 1000100000000 := by omega
      have b2a : 0 ≤ K2 := by omega
      have b2b : K2 ≤ 1000300000000 := by omega
      have b3a : 0 ≤ K3 := by omega
      have b3b : K3 ≤ 1000500000000 := by omega
      have c0 : w.cell? ⟨bb, off + j * 14, none⟩ = some (Value.int .i64 K) := hcell 0 (show 0 < 14 by omega)
      have c1 : w.cell? ⟨bb, off + j * 14 + 1, none⟩ = some (v0) := hcell 1 (show 1 < 14 by omega)
      have c2 : w.cell? ⟨bb, off + j * 14 + 2, none⟩ = some (Value.int .i64 K1) := hcell 2 (show 2 < 14 by omega)
      have c3 : w.cell? ⟨bb, off + j * 14 + 3, none⟩ = some (Value.int .i64 (K1 + 1)) := hcell 3 (show 3 < 14 by omega)
      have c4 : w.cell? ⟨bb, off + j * 14 + 4, none⟩ = some (Value.int .i64 (K1 + 2)) := hcell 4 (show 4 < 14 by omega)
      have c5 : w.cell? ⟨bb, off + j * 14 + 5, none⟩ = some (Value.int .i64 (K1 + 3)) := hcell 5 (show 5 < 14 by omega)
      have c6 : w.cell? ⟨bb, off + j * 14 + 6, none⟩ = some (Value.int .i64 (K1 + 4)) := hcell 6 (show 6 < 14 by omega)
      have c7 : w.cell? ⟨bb, off + j * 14 + 7, none⟩ = some (v1) := hcell 7 (show 7 < 14 by omega)
      have c8 : w.cell? ⟨bb, off + j * 14 + 8, none⟩ = some (Value.int .i64 K2) := hcell 8 (show 8 < 14 by omega)
      have c9 : w.cell? ⟨bb, off + j * 14 + 9, none⟩ = some (v2) := hcell 9 (show 9 < 14 by omega)
      have c10 : w.cell? ⟨bb, off + j * 14 + 10, none⟩ = some (Value.int .i64 K3) := hcell 10 (show 10 < 14 by omega)
      have c11 : w.cell? ⟨bb, off + j * 14 + 11, none⟩ = some (Value.int .i64 (K3 + 1)) := hcell 11 (show 11 < 14 by omega)
      have c12 : w.cell? ⟨bb, off + j * 14 + 12, none⟩ = some (Value.int .i64 (K3 + 2)) := hcell 12 (show 12 < 14 by omega)
      have c13 : w.cell? ⟨bb, off + j * 14 + 13, none⟩ = some (Value.int .i64 (K3 + 3)) := hcell 13 (show 13 < 14 by omega)
      have e0_0 := (hB.cell (p := ⟨bb, off + j * 14, none⟩) hbs).trans c0
      have e0_1 := (hB.cell (p := ⟨bb, off + j * 14 + 1, none⟩) hbs).trans c1
      have q0 := hid (rdsL.below r0 hB)
      have C1 := hid r1
      have C2 := hid r2
      clear hcell HC r0 r1 r2
      go_wp2_with fail
      refine (heldInstrS_o xs[j].prog_ v0 (K + 1) _ hb0 (by omega) (by omega) q0.out).mono ?_
      rintro e w2 ⟨rfl, b2⟩
      rw [hq1]
      have B2 := hB.trans (b2.mono hB.size)
      clear e0_0 e0_1 q0
      have n1 : ¬ (K1 < 0) := by omega
      have e2_2 := (B2.cell (p := ⟨bb, off + j * 14 + 2, none⟩) hbs).trans c2
      have e2_3 := (B2.cell (p := ⟨bb, off + j * 14 + 3, none⟩) hbs).trans c3
      have e2_4 := (B2.cell (p := ⟨bb, off + j * 14 + 4, none⟩) hbs).trans c4
      have e2_5 := (B2.cell (p := ⟨bb, off + j * 14 + 5, none⟩) hbs).trans c5
      have e2_6 := (B2.cell (p := ⟨bb, off + j * 14 + 6, none⟩) hbs).trans c6
      have e2_7 := (B2.cell (p := ⟨bb, off + j * 14 + 7, none⟩) hbs).trans c7
      go_wp2
      go_loopw [1, 6] (fun kk jj wq => wq = w2 ∧ ((jj = .int .i64 0 ∧ kk = .int .i64 (K1 + 1)) ∨ (jj = .int .i64 1 ∧ kk = .int .i64 (K1 + 2)) ∨ (jj = .int .i64 2 ∧ kk = .int .i64 (K1 + 3)) ∨ (jj = .int .i64 3 ∧ kk = .int .i64 (K1 + 4)) ∨ (jj = .int .i64 4 ∧ kk = .int .i64 (K1 + 5)))) (fun _ jj _ => 4 - (intOf jj).toNat)
      case atStart => exact ⟨rfl, .inl ⟨rfl, rfl⟩⟩
      case round =>
        obtain ⟨rfl, hrel⟩ := hrel
        rcases hrel with ⟨rfl, rfl⟩ | ⟨rfl, rfl⟩ | ⟨rfl, rfl⟩ | ⟨rfl, rfl⟩ | ⟨rfl, rfl⟩
        · go_wp2
          go_roundw
          case rel => exact ⟨by first | rfl | trivial, .inr (.inl ⟨by first | rfl | trivial | go_num, by first | rfl | trivial | go_num⟩)⟩
          case measure => simp [intOf]
        · go_wp2
          go_roundw
          case rel => exact ⟨by first | rfl | trivial, .inr (.inr (.inl ⟨by first | rfl | trivial | go_num, by first | rfl | trivial | go_num⟩))⟩
          case measure => simp [intOf]
        · go_wp2
          go_roundw
          case rel => exact ⟨by first | rfl | trivial, .inr (.inr (.inr (.inl ⟨by first | rfl | trivial | go_num, by first | rfl | trivial | go_num⟩)))⟩
          case measure => simp [intOf]
        · go_wp2
          go_roundw
          case rel => exact ⟨by first | rfl | trivial, .inr (.inr (.inr (.inr (⟨by first | rfl | trivial | go_num, by first | rfl | trivial | go_num⟩))))⟩
          case measure => simp [intOf]
        · have q1 := hid (rdsL.below C1.out B2)
          go_wp2_with fail
          refine (heldEntryS_o xs[j].open_ v1 (K1 + 5) _ hb1 (by omega) (by omega) q1.out).mono ?_
          rintro e w3 ⟨rfl, b3⟩
          rw [hq2]
          have B3 := B2.trans (b3.mono B2.size)
          have n2 : ¬ (K2 < 0) := by omega
          have e3_8 := (B3.cell (p := ⟨bb, off + j * 14 + 8, none⟩) hbs).trans c8
          have e3_9 := (B3.cell (p := ⟨bb, off + j * 14 + 9, none⟩) hbs).trans c9
          have q2 := hid (rdsL.below C2.out B3)
          go_wp2_with fail
          refine (heldFrameS_o xs[j].stack_ v2 (K2 + 1) _ hb2 (by omega) (by omega) q2.out).mono ?_
          rintro e w4 ⟨rfl, b4⟩
          rw [hq3]
          have B4 := B3.trans (b4.mono B3.size)
          have n3 : ¬ (K3 < 0) := by omega
          have e4_10 := (B4.cell (p := ⟨bb, off + j * 14 + 10, none⟩) hbs).trans c10
          have e4_11 := (B4.cell (p := ⟨bb, off + j * 14 + 11, none⟩) hbs).trans c11
          have e4_12 := (B4.cell (p := ⟨bb, off + j * 14 + 12, none⟩) hbs).trans c12
          have e4_13 := (B4.cell (p := ⟨bb, off + j * 14 + 13, none⟩) hbs).trans c13
          have hKn := hid (show K3 + 4 = k + (cntThreadS (xs.take (j+1)) : Int) by omega)
          have HB4 := hid B4
          have z2 : K3 + 1 + 1 = K3 + 2 := by omega
          have z3 : K3 + 2 + 1 = K3 + 3 := by omega
          have z4 : K3 + 3 + 1 = K3 + 4 := by omega
          clear q1 q2 hq4
          go_wp2
          go_roundw
          case rel => exact ⟨j+1, by omega, by go_num, by rw [← hKn.out], HB4.out⟩
          case measure => simp [intOf]; omega
    · obtain rfl : j = xs.length := by omega
      have hKe := hid (show cntThreadS (xs.take xs.length) = cntThreadS xs by rw [List.take_length])
      go_wp2
      go_ret
      exact ⟨ret_int (by rw [hKe.out]), hB⟩
theorem heldThreadS_o (xs : List ThreadD) (v : Value) (k : Int) (w : World) (hb : ThreadSB xs) (h0 : 0 ≤ k) (h1 : k ≤ 900000000000) (r : rdsL w v (markThreadSD xs k)) :
    Calls Tryz.prog 127 #[v, .int .i64 k] w fun r w' => r = .returned (.int .i64 (k + cntThreadS xs)) ∧ Below w.heap.size w w' :=
  heldThreadS_v v xs k w (fun i hi => threadSB_at hb i hi) h0 (by have := cntThreadS_le hb; omega) r
end Go.Proofs.YtbbdchlabdilcaaGreat
