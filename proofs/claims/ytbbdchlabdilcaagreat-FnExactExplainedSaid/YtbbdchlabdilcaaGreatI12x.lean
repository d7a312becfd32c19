/- Chapter 12's program: Explained. -/
import Derived.Test.YtbbdchlabdilcaaGreatM14
import Derived.Test.YtbbdchlabdilcaaGreatI12c
import Derived.Test.YtbbdchlabdilcaaGreatS12x
import Derived.Test.YtbbdchlabdilcaaGreatM11
import Derived.StillTailTactics
namespace Go.Proofs.YtbbdchlabdilcaaGreat
set_option maxRecDepth 100000
open Go.RowKit Go.Proofs Go.Own Go.Ord
open Go Go.BigFrame
set_option linter.unusedVariables false
set_option linter.unusedSimpArgs false
theorem infoAtt : (Tryz.prog.info? 111).map (fun i => (i.zero, i.size, i.bytes)) = some (some (.agg #[.bool false, .bool false, .bool false, .bool false, .bool false, .bool false, .bool false, .bool false, .int .i64 0, .int .i64 0, .int .i64 0, .int .i64 0, .int .i64 0, .int .i64 0, .int .i64 0, .int .i64 0, .slice none 0 0]), 17, 96) := by kernel_rfl
def zero17 : B17 := ⟨encA att0 (.slice none 0 0), rfl⟩
theorem made17 (n : Nat) : (madeCells (Value.agg #[.bool false, .bool false, .bool false, .bool false, .bool false, .bool false, .bool false, .bool false, .int .i64 0, .int .i64 0, .int .i64 0, .int .i64 0, .int .i64 0, .int .i64 0, .int .i64 0, .int .i64 0, .slice none 0 0]).cells (n * 17)).toList = (List.replicate n zero17).flatMap B17.val := by
  rw [show (Value.agg #[.bool false, .bool false, .bool false, .bool false, .bool false, .bool false, .bool false, .bool false, .int .i64 0, .int .i64 0, .int .i64 0, .int .i64 0, .int .i64 0, .int .i64 0, .int .i64 0, .int .i64 0, .slice none 0 0]).cells = (encA att0 (.slice none 0 0)).toArray from rfl]
  apply List.ext_getElem?; intro i
  by_cases hi : i < n * 17
  · have h1 := flatMap_get B17.val 17 (fun x : B17 => x.2) (List.replicate n zero17) (i / 17) (by simp; omega) (i % 17) (by omega)
    rw [show i / 17 * 17 + i % 17 = i by omega] at h1
    rw [h1, List.getElem_replicate]
    have h5 : i % 17 < 17 := by omega
    simp only [madeCells, Array.toList_map, Array.toList_range, List.getElem?_map, List.getElem?_range hi, Option.map_some]
    rw [show (encA att0 (.slice none 0 0)).toArray.size = 17 from rfl]
    generalize i % 17 = m at *
    have : m = 0 ∨ m = 1 ∨ m = 2 ∨ m = 3 ∨ m = 4 ∨ m = 5 ∨ m = 6 ∨ m = 7 ∨ m = 8 ∨ m = 9 ∨ m = 10 ∨ m = 11 ∨ m = 12 ∨ m = 13 ∨ m = 14 ∨ m = 15 ∨ m = 16 := by omega
    rcases this with e | e | e | e | e | e | e | e | e | e | e | e | e | e | e | e | e <;> subst e <;> rfl
  · rw [List.getElem?_eq_none (by simp [madeCells]; omega), List.getElem?_eq_none (by rw [b17_len]; simp; omega)]
def B17.puts (b : B17) : Nat → List Value → B17
  | _, [] => b
  | i, v :: r => (b.put i v).puts (i+1) r
theorem puts_val : ∀ (vs : List Value) (b : B17) (i : Nat), i + vs.length ≤ 17 → (b.puts i vs).val = b.val.take i ++ vs ++ b.val.drop (i + vs.length)
  | [], b, i, h => by show b.val = _; simp
  | v :: r, b, i, h => by
    have hl := b.len
    simp only [List.length_cons] at h
    show ((b.put i v).puts (i+1) r).val = _
    rw [puts_val r (b.put i v) (i+1) (by omega)]
    show (b.val.set i v).take (i+1) ++ r ++ (b.val.set i v).drop (i + 1 + r.length) = _
    rw [List.drop_set_of_lt (by omega), List.take_add_one, List.getElem?_set_self (by omega), List.take_set_of_le (by omega)]
    simp
    congr 1; omega
theorem b17_eq {a b : B17} (h : a.val = b.val) : a = b := by cases a; cases b; simp at h; subst h; rfl
theorem b17_setCells {base e T g c : Nat} {L : List B17} (hT : L.length = T) (j : Nat) (hj : j < L.length) : ∀ (vs : List Value) (i : Nat) (b : B17) (w : World), i + vs.length ≤ 17 → w.ownsRow base e 17 (.slice (some ⟨g, 0, none⟩) T c) T ((L.set j b).flatMap B17.val) → (w.setCells g (j * 17 + i) vs).ownsRow base e 17 (.slice (some ⟨g, 0, none⟩) T c) T ((L.set j (b.puts i vs)).flatMap B17.val)
  | [], i, b, w, _, h => h
  | v :: r, i, b, w, hi, h => by
    simp only [List.length_cons] at hi
    have z := b17_puts hT j hj b h i (by omega) v
    exact b17_setCells hT j hj r (i+1) (b.put i v) _ (by omega) z
section
variable {P : Program}
/-- A struct of 17 cells stored into its place in a row. -/
theorem wpList_store_b17 {ops : Array Oper} {rest : List Oper} {op : Oper} {a : Act} {w : World} {Q : Exit → Act → World → Prop} (hgd : op.guard = none) (ty : TypeId) (x y : Operand) (ho : op.op = .store ty x y)
    (base e T g c j : Nat) (L : List B17) (hT : L.length = T) (hj : j < T) (h : w.ownsRow base e 17 (.slice (some ⟨g, 0, none⟩) T c) T (L.flatMap B17.val)) (z : B17) (hx : a.eval x = .pointer (some ⟨g, j * 17, none⟩)) (hy : a.eval y = .agg z.val.toArray)
    (hi : (P.info? ty).map (·.size) = some 17) (h1 : z.val.all (·.oneCell') = true)
    (hK : ∀ w', w'.ownsRow base e 17 (.slice (some ⟨g, 0, none⟩) T c) T ((L.set j z).flatMap B17.val) → ChgS (fun b => b = g) w w' → wpList P ops Q rest (a.put op.dst undef) w') : wpList P ops Q (op :: rest) a w := by
  have hj2 : j < L.length := by omega
  have hz : (L[j].puts 0 z.val) = z := b17_eq (by rw [puts_val _ _ _ (by rw [z.len]; omega), z.len, List.drop_of_length_le (by rw [L[j].len]; omega)]; simp)
  have r0 : w.ownsRow base e 17 (.slice (some ⟨g, 0, none⟩) T c) T ((L.set j L[j]).flatMap B17.val) := by rw [List.set_getElem_self]; exact h
  have r1 := b17_setCells hT j hj2 z.val 0 L[j] w (by rw [z.len]; omega) r0
  rw [hz] at r1
  refine wpList_store_mid hgd ty x y ho g (j * 17) z.val.toArray hx hy (fun k hk => ?_) (by simpa [z.len] using hi) (all_oneCell_toArray (by simpa using h1))
    (hK _ (by simpa using r1) (by simpa using chg_setCells (S := fun b => b = g) g rfl z.val (j * 17) w (ChgS.refl _ w)))
  have hk17 : k < 17 := by simpa [z.len] using hk
  exact ⟨by rw [b17_cell hT h j hj2 k hk17 (L[j].val[k]'(by rw [L[j].len]; exact hk17)) (List.getElem?_eq_getElem _)]; rfl, h.frozenAt _⟩
end
/-- The attempts in memory. -/
def AttMem (gv ga : Nat) (w : World) (A : Nat → AttD) (L : List B17) (T : Nat) : Prop := L.length = T ∧ ∀ j, (hj : j < L.length) → ∃ u, L[j].1 = encA (A j) u ∧ Ints w u (A j).th ∧ ∀ b, u.ownBlock = some b → ¬ b = gv ∧ ¬ b = ga
theorem AttMem.chg {gv ga T : Nat} {w w' : World} {A : Nat → AttD} {L : List B17} (h : AttMem gv ga w A L T) (C : ChgS (fun b => b = gv ∨ b = ga) w w') : AttMem gv ga w' A L T := by
  refine ⟨h.1, fun j hj => ?_⟩
  obtain ⟨u, h1, h2, h3⟩ := h.2 j hj
  exact ⟨u, h1, flat_chg h2 C (fun b hb hs => by have := h3 b hb; rcases hs with e | e <;> simp_all), h3⟩
theorem AttMem.same {gv ga T : Nat} {w : World} {A A' : Nat → AttD} {L : List B17} (h : AttMem gv ga w A L T) (e : ∀ j, A' j = A j) : AttMem gv ga w A' L T := by
  refine ⟨h.1, fun j hj => ?_⟩
  rw [e j]; exact h.2 j hj
theorem AttMem.set {gv ga T : Nat} {w : World} {A A' : Nat → AttD} {L : List B17} (h : AttMem gv ga w A L T) (j0 : Nat) (b : B17) (u : Value) (e : ∀ j, ¬ j = j0 → A' j = A j) (h1 : b.1 = encA (A' j0) u) (h2 : Ints w u (A' j0).th) (h3 : ∀ b, u.ownBlock = some b → ¬ b = gv ∧ ¬ b = ga) : AttMem gv ga w A' (L.set j0 b) T := by
  refine ⟨by rw [List.length_set]; exact h.1, fun j hj => ?_⟩
  by_cases hjj : j = j0
  · subst hjj
    rw [List.getElem_set_self]
    exact ⟨u, h1, h2, h3⟩
  · rw [List.getElem_set_ne (by omega), e j hjj]
    exact h.2 j (by rw [List.length_set] at hj; exact hj)
theorem attN_at {fs : List Int} {ds : List DescD} {lg : List Event} {th : Int} {k : Nat} (h : k < lg.length) (ht : lg[k].thread_ = th) : attN fs ds lg th (k+1) = attE (attN fs ds lg th k) lg[k] (stateN fs ds lg k) := by rw [attN_succ h, if_pos ht]
theorem attN_ne {fs : List Int} {ds : List DescD} {lg : List Event} {th : Int} {k : Nat} (h : k < lg.length) (ht : ¬ lg[k].thread_ = th) : attN fs ds lg th (k+1) = attN fs ds lg th k := by rw [attN_succ h, if_neg ht]
theorem attN_stay {fs : List Int} {ds : List DescD} {lg : List Event} {th : Int} {k : Nat} (h : k < lg.length) (h1 : ¬ lg[k].kind_ = 1) (h3 : ¬ lg[k].kind_ = 3) (h4 : ¬ lg[k].kind_ = 4) (h5 : ¬ lg[k].kind_ = 5) : attN fs ds lg th (k+1) = attN fs ds lg th k := by
  rw [attN_succ h]
  split
  · unfold attE; rw [if_neg h1, if_neg (by omega)]
  · rfl
theorem attN_thlen {fs : List Int} {ds : List DescD} {lg : List Event} {th : Int} (hf : fs.length ≤ 8) : ∀ k, (attN fs ds lg th k).th.length ≤ 8
  | 0 => by show (0 : Nat) ≤ 8; omega
  | k+1 => by
    have ih := attN_thlen (ds := ds) (lg := lg) (th := th) hf k
    unfold attN
    split
    · split
      · unfold attE
        split
        · show (stateN fs ds lg k).length ≤ 8; rw [stateN_len]; exact hf
        · split
          · show (0 : Nat) ≤ 8; omega
          · exact ih
      · exact ih
    · exact ih
set_option maxHeartbeats 16000000 in
theorem impl_Explained0 (d : WorldD) (v0 v1 v2 v3 v4 : Value) (w : World) (h0 : rdsL w v0 d.first_) (h1 : rdsL w v1 d.store_.heads_) (h2 : rdsL w v2 d.store_.descs_) (h3 : rdsL w v3 d.threads_) (h4 : rdsL w v4 d.log_) (hb : WorldB d) :
    Calls Tryz.prog 17 #[.agg #[v0, v1, v2, v3, v4]] w fun e w' => e = .returned (.tuple #[.int .i64 (explC d).1, .int .i64 (explC d).2]) ∧ Below w.heap.size w w' := by
  obtain ⟨i0, hi, hz0, hz1, hz2⟩ := info_parts infoAtt
  obtain ⟨fs, ⟨hs, ds⟩, ts, lg⟩ := d
  have Hok := hid (fun w r0 r1 r2 r3 r4 => impl_WorldOk0 ⟨fs, ⟨hs, ds⟩, ts, lg⟩ v0 v1 v2 v3 v4 w r0 r1 r2 r3 r4 (storeB_parts (worldB_parts hb).2.1).2.1)
  have Hex := hid (show explC ⟨fs, ⟨hs, ds⟩, ts, lg⟩ = if worldOk ⟨fs, ⟨hs, ds⟩, ts, lg⟩ = true then explTo fs ds lg lg.length 0 else (-1, 1) from rfl)
  have Hev := hid (fun hk => worldOk_ev (d := ⟨fs, ⟨hs, ds⟩, ts, lg⟩) hk)
  have Hfi := hid (fun hk => And.intro (worldOk_first (d := ⟨fs, ⟨hs, ds⟩, ts, lg⟩) hk).1 (worldOk_first (d := ⟨fs, ⟨hs, ds⟩, ts, lg⟩) hk).2.1)
  have Hen := hid (fun hk => worldOk_ents (d := ⟨fs, ⟨hs, ds⟩, ts, lg⟩) hk)
  have htl : ts.length ≤ 1048576 := by have z := (worldB_parts hb).2.2.1; unfold ThreadSB szThreadSD at z; dsimp only at z; omega
  dsimp only at h0 h1 h2 h3 h4 Hok Hev Hfi Hen ⊢
  obtain ⟨a0, cap0, rfl, hl0, hm0, -⟩ := rdsL_open h0
  obtain ⟨a1, cap1, rfl, hl1, hm1, -⟩ := rdsL_open h1
  obtain ⟨a2, cap2, rfl, hl2, hm2, hc2⟩ := rdsL_open h2
  obtain ⟨a3, cap3, rfl, hl3, hm3, -⟩ := rdsL_open h3
  obtain ⟨a4, cap4, rfl, hl4, hm4, hc4⟩ := rdsL_open h4
  have hlfs_ : fs.length ≤ 9223372036854775807 := by omega
  have hlhs_ : hs.length ≤ 9223372036854775807 := by omega
  have hlds_ : ds.length ≤ 9223372036854775807 := by omega
  have hlts_ : ts.length ≤ 9223372036854775807 := by omega
  have hllg_ : lg.length ≤ 9223372036854775807 := by omega
  have R0 := hid h0
  have R1 := hid h1
  have R2 := hid h2
  have R3 := hid h3
  have R4 := hid h4
  have HC2 := hid hc2
  have HC4 := hid hc4
  obtain ⟨EX, hEX⟩ : ∃ EX, Hid (explC ⟨fs, ⟨hs, ds⟩, ts, lg⟩ = EX) := ⟨_, hid rfl⟩
  rw [hEX.out]
  rw [hEX.out] at Hex
  generalize worldOk ⟨fs, ⟨hs, ds⟩, ts, lg⟩ = R at *
  clear h0 h1 h2 h3 h4 hb hc2 hc4 hEX
  obtain ⟨W1, hW1⟩ : ∃ X, w.alloc (.cells #[Value.slice a0 fs.length cap0, Value.slice a1 hs.length cap1, Value.slice a2 ds.length cap2, Value.slice a3 ts.length cap3, Value.slice a4 lg.length cap4] 32) = X := ⟨_, rfl⟩
  have hB1 : Below w.heap.size w W1 := by rw [← hW1]; exact (Below.refl _ _).alloc (Nat.le_refl _) _
  have bw : Box W1 w.heap.size [Value.slice a0 fs.length cap0, Value.slice a1 hs.length cap1, Value.slice a2 ds.length cap2, Value.slice a3 ts.length cap3, Value.slice a4 lg.length cap4] := by rw [← hW1]; exact Box.alloc _ _ _
  have k0 : W1.cell? ⟨w.heap.size, 0, none⟩ = some (Value.slice a0 fs.length cap0) := bw.2 0 (by simp)
  have k1 : W1.cell? ⟨w.heap.size, 1, none⟩ = some (Value.slice a1 hs.length cap1) := bw.2 1 (by simp)
  have k2 : W1.cell? ⟨w.heap.size, 2, none⟩ = some (Value.slice a2 ds.length cap2) := bw.2 2 (by simp)
  have k3 : W1.cell? ⟨w.heap.size, 3, none⟩ = some (Value.slice a3 ts.length cap3) := bw.2 3 (by simp)
  have k4 : W1.cell? ⟨w.heap.size, 4, none⟩ = some (Value.slice a4 lg.length cap4) := bw.2 4 (by simp)
  have HW1 := hid hW1
  have BW := hid bw
  clear hW1 bw
  go_enter Tryz.func17, Tryz.ntmps17
  go_wp2_with fail
  rw [HW1.out]
  refine (Hok.out _ (rdsL.below R0.out hB1) (rdsL.below R1.out hB1) (rdsL.below R2.out hB1) (rdsL.below R3.out hB1) (rdsL.below R4.out hB1)).mono ?_
  rintro e w2 ⟨rfl, b2⟩
  have B2 := hB1.trans (b2.mono hB1.size)
  have HB2 := hid B2
  have BX2 := hid (BW.out.below b2)
  have x0 : w2.cell? ⟨w.heap.size, 0, none⟩ = some (Value.slice a0 fs.length cap0) := BX2.out.2 0 (by simp)
  have T0 := hid (rdsL.below R0.out B2)
  clear k0 k1 k2 k3 k4 b2 hB1 BW HW1 B2
  cases R with
  | false =>
    have hv : EX = (-1, 1) := by rw [Hex.out]; simp
    subst hv
    clear Hex
    go_wp2
    go_ret2
    exact ⟨rfl, HB2.out⟩
  | true =>
  have Hex2 := hid (show EX = explTo fs ds lg lg.length 0 by rw [Hex.out]; simp)
  have HEV := hid (Hev.out (by first | exact rfl | trivial))
  have hfi := Hfi.out (by first | exact rfl | trivial)
  have HEN := hid (Hen.out (by first | exact rfl | trivial))
  clear Hex Hev Hfi Hen Hok
  have hsz2 := BX2.out.1
  go_wp2_with fail
  refine (impl_stateOf fs _ _ (rdsInts.1 T0.out) (by omega)).mono ?_
  rintro e w3 ⟨u3, rfl, o3, b3⟩
  have HB3 := hid (HB2.out.trans (b3.mono HB2.out.size))
  have BX3 := hid (BX2.out.below b3)
  obtain ⟨gv, gc, rfl, hgc1, hgc2, hgv1, hgv2, -, -⟩ := owns_at o3 (by omega)
  have HO3 := hid o3
  have x3 : w3.cell? ⟨w.heap.size, 3, none⟩ = some (Value.slice a3 ts.length cap3) := BX3.out.2 3 (by simp)
  have x4 : w3.cell? ⟨w.heap.size, 4, none⟩ = some (Value.slice a4 lg.length cap4) := BX3.out.2 4 (by simp)
  clear o3 x0 T0 b3
  go_wp2_with (at_make; refine wpList_make_full _ rfl _ _ 104 rfl (w3.heap.size) 111 i0 (.agg #[.bool false, .bool false, .bool false, .bool false, .bool false, .bool false, .bool false, .bool false, .int .i64 0, .int .i64 0, .int .i64 0, .int .i64 0, .int .i64 0, .int .i64 0, .int .i64 0, .int .i64 0, .slice none 0 0]) 17 Tryz.underlying104 hi hz0 hz1 _ _ _ _ ts.length rfl rfl rfl rfl (by rw [hz2]; omega) (by unfold maxLen; omega) (Nat.le_refl _) ?_)
  intro w4 hown hgrow
  have hga : w3.heap.size < w4.heap.size := (World.ownsRow.lt hown _ rfl).2
  have OA := hid (show w4.ownsRow w3.heap.size 111 17 (.slice (some ⟨w3.heap.size, 0, none⟩) ts.length ts.length) ts.length ((List.replicate ts.length zero17).flatMap B17.val) by rw [← made17]; exact hown)
  have b34 := (Below.refl w3.heap.size w3).grown hgrow (Nat.le_refl _) (by simp)
  have HB4 := hid (HB3.out.trans (b34.mono HB3.out.size))
  have HO4 := hid (owns_below HO3.out b34)
  have BX4 := hid (BX3.out.below b34)
  have hs3 := HB3.out.size
  have hs2 := HB2.out.size
  have y4 : w4.cell? ⟨w.heap.size, 4, none⟩ = some (Value.slice a4 lg.length cap4) := BX4.out.2 4 (by simp)
  have AM := hid (show AttMem gv w3.heap.size w4 (fun j => attN fs ds lg (j : Int) 0) (List.replicate ts.length zero17) ts.length from ⟨by simp, fun j hj => ⟨.slice none 0 0, by rw [List.getElem_replicate]; rfl, Flat.of_owns (nilRow12 w4 0 3), fun b hb => by cases hb⟩⟩)
  obtain ⟨ga, hga9⟩ : ∃ g, g = w3.heap.size := ⟨_, rfl⟩
  rw [← hga9] at hga OA AM hgv2 b34 ⊢
  have HZ3 := hid (show w.heap.size ≤ ga by omega)
  clear hown hgrow HO3 BX3 x3 x4 HB3 hga9 b34
  go_wp2
  go_loopw [22] (fun i wr => ∃ (k m : Nat) (L : List B17), k + m = lg.length ∧ i = .int .i64 k ∧ Same (explTo fs ds lg m k) (explTo fs ds lg lg.length 0) ∧ Hid (wr.ownsRow w2.heap.size 3 1 (.slice (some ⟨gv, 0, none⟩) fs.length gc) fs.length ((stateN fs ds lg k).flatMap encI)) ∧ Hid (wr.ownsRow ga 111 17 (.slice (some ⟨ga, 0, none⟩) ts.length ts.length) ts.length (L.flatMap B17.val)) ∧ Hid (AttMem gv ga wr (fun j => attN fs ds lg (j : Int) k) L ts.length) ∧ Hid (ChgS (fun b => b = gv ∨ b = ga) w4 wr)) (fun i _ => lg.length - (intOf i).toNat)
  case atStart => exact ⟨0, lg.length, _, by omega, rfl, .rfl, HO4, OA, AM, hid (ChgS.refl _ _)⟩
  case round =>
    clear HO4 OA AM y4
    obtain ⟨k, m, L, hkm, rfl, hS, HO, OA, AM, HC⟩ := hrel
    have hBr := below_chg HB4.out HC.out HB4.out.size (fun b hb => by omega)
    have HBr := hid hBr
    have hsr := HC.out.size
    by_cases hlt : k < lg.length
    · obtain ⟨m, rfl⟩ : ∃ q, m = q + 1 := ⟨m - 1, by omega⟩
      obtain ⟨bb, off, cs, rfl, hbs, hel, hcell⟩ := HC4.out k hlt
      have hel : cs = Event.enc lg[k] := hel
      subst hel
      have c0 : w.cell? ⟨bb, off + k * 4, none⟩ = some (.int .i64 lg[k].kind_) := hcell 0 (show 0 < 4 by omega)
      have c1 : w.cell? ⟨bb, off + k * 4 + 1, none⟩ = some (.int .i64 lg[k].thread_) := hcell 1 (show 1 < 4 by omega)
      have c2 : w.cell? ⟨bb, off + k * 4 + 2, none⟩ = some (.int .i64 lg[k].object_) := hcell 2 (show 2 < 4 by omega)
      have c3 : w.cell? ⟨bb, off + k * 4 + 3, none⟩ = some (.int .i64 lg[k].value_) := hcell 3 (show 3 < 4 by omega)
      have e0 := (hBr.cell (p := ⟨bb, off + k * 4, none⟩) hbs).trans c0
      have e1 := (hBr.cell (p := ⟨bb, off + k * 4 + 1, none⟩) hbs).trans c1
      have e2 := (hBr.cell (p := ⟨bb, off + k * 4 + 2, none⟩) hbs).trans c2
      have e3 := (hBr.cell (p := ⟨bb, off + k * 4 + 3, none⟩) hbs).trans c3
      have hev := HEV.out k hlt
      have hth : isIn ts.length lg[k].thread_ = true := by
        rw [evOk_cases] at hev; simp only [Bool.and_eq_true] at hev; exact hev.1.2
      unfold isIn at hth
      simp only [Bool.and_eq_true, decide_eq_true_eq] at hth
      have Hop := hid (fun (h : lg[k].kind_ = 1) => evOk_open hev h)
      have Hcm := hid (fun (h : lg[k].kind_ = 3) => evOk_com hev h)
      have Hgo := hid (fun h => explTo_go (fs := fs) (ds := ds) (lg := lg) (n := m) (i := k) h)
      have Hend := hid (fun (c : Int) h1 h2 => explTo_end (fs := fs) (ds := ds) (lg := lg) (n := m) (i := k) (c := c) h1 h2)
      have Hccom := hid (fun h => codeAt_com (fs := fs) (ds := ds) hlt h)
      have Hcsee := hid (fun h => codeAt_see (fs := fs) (ds := ds) hlt h)
      have Hcnot := hid (fun h h2 => codeAt_not (fs := fs) (ds := ds) hlt h h2)
      have Hscom := hid (fun h => stateN_com (fs := fs) (ds := ds) hlt h)
      have Hsnot := hid (fun h => stateN_not (fs := fs) (ds := ds) hlt h)
      have Hsee := hid (seen_att (fs := fs) (ds := ds) (p := k) (by omega) (by omega) HEV.out hlt)
      have Hat := hid (fun th h => attN_at (fs := fs) (ds := ds) (th := th) hlt h)
      have Hne := hid (fun th h => attN_ne (fs := fs) (ds := ds) (th := th) hlt h)
      have Hstay := hid (fun th h1 h3 h4 h5 => attN_stay (fs := fs) (ds := ds) (th := th) hlt h1 h3 h4 h5)
      have Hlen := hid (stateN_len fs ds lg k)
      have Hlens := hid (fun th => att_lens (fs := fs) (ds := ds) (lg := lg) (th := th) k)
      have Hthl := hid (fun th => show (attN fs ds lg th k).th.length ≤ 8 from attN_thlen (by omega) k)
      clear c0 c1 c2 c3 hcell HC4 hev
      obtain ⟨E, hE⟩ : ∃ E, lg[k] = E := ⟨_, rfl⟩
      rw [hE] at e0 e1 e2 e3 hth Hop Hcm Hccom Hcsee Hcnot Hscom Hsnot Hsee Hat Hne Hstay
      obtain ⟨kd, th, ob, va⟩ := E
      dsimp only at e0 e1 e2 e3 hth Hop Hcm Hccom Hcsee Hcnot Hscom Hsnot Hsee Hat Hne Hstay
      obtain ⟨t, rfl⟩ := Int.eq_ofNat_of_zero_le hth.1
      have htl2 : t < ts.length := by omega
      have ht0 : (0 : Int) ≤ (t : Int) := by omega
      have hti : (t : Int) < (ts.length : Int) := by omega
      clear hE hth
      obtain ⟨V, hV⟩ : ∃ X, wr.alloc (.cells #[.int .i64 kd, .int .i64 (t : Int), .int .i64 ob, .int .i64 va] 106) = X := ⟨_, rfl⟩
      have hBV : Below wr.heap.size wr V := by rw [← hV]; exact (Below.refl _ _).alloc (Nat.le_refl _) _
      have bv : Box V wr.heap.size [.int .i64 kd, .int .i64 (t : Int), .int .i64 ob, .int .i64 va] := by rw [← hV]; exact Box.alloc _ _ _
      have y0 : V.cell? ⟨wr.heap.size, 0, none⟩ = some (.int .i64 kd) := bv.2 0 (by simp)
      have y1 : V.cell? ⟨wr.heap.size, 1, none⟩ = some (.int .i64 (t : Int)) := bv.2 1 (by simp)
      have y2 : V.cell? ⟨wr.heap.size, 2, none⟩ = some (.int .i64 ob) := bv.2 2 (by simp)
      have y3 : V.cell? ⟨wr.heap.size, 3, none⟩ = some (.int .i64 va) := bv.2 3 (by simp)
      have HCV := hid (HC.out.trans (ChgS.of_below hBV (fun b => b = gv ∨ b = ga)))
      have HOV := hid (owns_below HO.out hBV)
      have OAV := hid (owns_below OA.out hBV)
      have AMV := hid (AM.out.chg (ChgS.of_below hBV (fun b => b = gv ∨ b = ga)))
      have HBV := hid (HBr.out.trans (hBV.mono HBr.out.size))
      have hsV := hBV.size
      have HV := hid hV
      clear HC HO OA AM bv hBr
      have HLT := hid AMV.out.1
      obtain ⟨u, hu1, hu2, hu3⟩ := AMV.out.2 t (by have := HLT.out; omega)
      have HU1 := hid hu1
      have HU2 := hid hu2
      clear hu1 hu2 hu3
      have hgvV : gv < V.heap.size ∧ ga < V.heap.size ∧ gv < ga := by omega
      have HVI := hid (show Ints V (.slice (some ⟨gv, 0, none⟩) fs.length gc) (stateN fs ds lg k) by
        show Flat V _ (stateN fs ds lg k).length 1 _
        rw [Hlen.out]; exact Flat.of_owns HOV.out)
      by_cases k1 : kd = 1
      · subst k1
        obtain ⟨ho0, ho1⟩ := Hop.out rfl
        obtain ⟨o, rfl⟩ := Int.eq_ofNat_of_zero_le ho0
        have hol : o < fs.length := by omega
        have Hs := hid (Hsnot.out (by decide))
        have Hx := hid (Hgo.out (Hcnot.out (by decide) (by decide)))
        have Ha := hid (show attN fs ds lg (t : Int) (k+1) = attO (attN fs ds lg (t : Int) k) o va (stateN fs ds lg k) by rw [Hat.out _ rfl]; unfold attE; rw [if_pos rfl]; rfl)
        have Hcall := hid (impl_open0 L ts.length t ga ga ts.length HLT.out htl2 1 t va o (by omega) (stateN fs ds lg k) (.slice (some ⟨gv, 0, none⟩) fs.length gc) V OAV.out HVI.out (by rw [Hlen.out]; omega) (fun b hb => by have e : gv = b := Option.some.inj hb; omega) ⟨_, by rw [HU1.out]; exact encA_op _ _ o (by omega)⟩ ⟨_, by rw [HU1.out]; exact encA_to _ _ o (by omega)⟩ ⟨u, by rw [HU1.out]; rfl⟩)
        clear Hop Hcm Hgo Hend Hccom Hcsee Hcnot Hscom Hsnot Hsee Hstay ho0
        go_wp2_with fail
        refine Hcall.out.mono ?_
        rintro e w6 ⟨u', rfl, r6, o6, C6⟩
        have C6b := C6.mono (T := fun b => b = gv ∨ b = ga) (fun b hb => .inr hb)
        have HC6 := hid (HCV.out.trans C6b)
        have HR6 := hid r6
        have HO6 := hid (show w6.ownsRow w2.heap.size 3 1 (.slice (some ⟨gv, 0, none⟩) fs.length gc) fs.length ((stateN fs ds lg (k+1)).flatMap encI) by
          rw [Hs.out]; exact owns_same HOV.out fun b hb => C6.block b (World.ownsRow.lt HOV.out b hb).2 (by have e : gv = b := Option.some.inj hb; omega))
        have hT2 : t < L.length := by have := HLT.out; omega
        have Henc := hid (show (((L[t].put o (.bool true)).put (8 + o) (.int .i64 va)).put 16 u').val = encA (attN fs ds lg (t : Int) (k+1)) u' by
          show ((L[t].val.set o _).set (8 + o) _).set 16 u' = _
          rw [HU1.out, Ha.out]; exact encA_open _ u u' o va _ (Hlens.out _).1 (Hlens.out _).2 (by omega))
        have Hth2 := hid (show Ints w6 u' (attN fs ds lg (t : Int) (k+1)).th by rw [Ha.out]; exact Flat.of_owns o6)
        have AM6 := hid ((AMV.out.chg C6b).set (A' := fun j => attN fs ds lg (j : Int) (k+1)) t _ u' (fun j hj => Hne.out (j : Int) (by omega)) Henc.out Hth2.out (fun b hb => by have z := (World.ownsRow.lt o6 b hb).1; omega))
        have Hx2 := hid (show Same (explTo fs ds lg m (k+1)) (explTo fs ds lg lg.length 0) from .mk (by rw [← hS.out]; exact Hx.out.symm))
        clear r6 o6 C6 C6b Hcall
        go_wp2
        go_roundw
        case rel => exact ⟨k+1, m, _, by omega, by go_num, Hx2.out, HO6, HR6, AM6, HC6⟩
        case measure => simp [intOf]; omega
      by_cases k2 : kd = 2
      · subst k2
        have Hs := hid (Hsnot.out (by decide))
        obtain ⟨B, hB9⟩ : ∃ B, Hid (wasC (attN fs ds lg (t : Int) k) = B) := ⟨_, hid rfl⟩
        have Hcall := hid (impl_was0 L ts.length t ga ga ts.length HLT.out htl2 (attN fs ds lg (t : Int) k) u V OAV.out HU1.out HU2.out (Hthl.out _))
        rw [hB9.out] at Hcall
        have Hcd := hid (Hcsee.out rfl)
        rw [Hsee.out, hB9.out] at Hcd
        have HO6 := hid (show V.ownsRow w2.heap.size 3 1 (.slice (some ⟨gv, 0, none⟩) fs.length gc) fs.length ((stateN fs ds lg (k+1)).flatMap encI) by rw [Hs.out]; exact HOV.out)
        have AM6 := hid (AMV.out.same (A' := fun j => attN fs ds lg (j : Int) (k+1)) fun j => Hstay.out (j : Int) (by decide) (by decide) (by decide) (by decide))
        clear Hop Hcm Hccom Hcsee Hcnot Hscom Hsnot Hsee Hstay
        go_wp2_with fail
        refine Hcall.out.mono ?_
        rintro e w6 ⟨rfl, rfl⟩
        cases B with
        | false =>
          have hv : EX = ((k : Int), 3) := by rw [Hex2.out, ← hS.out]; exact Hend.out 3 (by rw [Hcd.out]; rfl) (by decide)
          subst hv
          clear Hex2 Hcall
          go_wp2
          go_ret2
          exact ⟨rfl, HBV.out⟩
        | true =>
          have Hx2 := hid (show Same (explTo fs ds lg m (k+1)) (explTo fs ds lg lg.length 0) from .mk (by rw [← hS.out]; exact (Hgo.out (by rw [Hcd.out]; rfl)).symm))
          clear Hcall
          go_wp2
          go_roundw
          case rel => exact ⟨k+1, m, L, by omega, by go_num, Hx2.out, HO6, OAV, AM6, HCV⟩
          case measure => simp [intOf]; omega
      by_cases k3 : kd = 3
      · subst k3
        obtain ⟨hx0, hx1⟩ := Hcm.out rfl
        obtain ⟨x, rfl⟩ := Int.eq_ofNat_of_zero_le hx0
        have hxl : x < ds.length := by omega
        have q2 : V.cell? ⟨w.heap.size, 2, none⟩ = some (Value.slice a2 ds.length cap2) := (cell_chg HCV.out BX4.out.1 (show ¬ (w.heap.size = gv ∨ w.heap.size = ga) by omega)).trans (BX4.out.2 2 (by simp))
        have Hscm := hid (Hscom.out rfl)
        have Hcd := hid (Hccom.out rfl)
        rw [entsAt_eq hxl] at Hscm Hcd
        obtain ⟨bb2, off2, cc, rfl, hbs2, ⟨v2, rfl, h2⟩, hcell⟩ := HC2.out x hxl
        have c0 : w.cell? ⟨bb2, off2 + x * 3, none⟩ = some (.int .i64 ds[x].owner_) := hcell 0 (show 0 < 3 by omega)
        have c1 : w.cell? ⟨bb2, off2 + x * 3 + 1, none⟩ = some (.int .i64 ds[x].status_) := hcell 1 (show 1 < 3 by omega)
        have c2 : w.cell? ⟨bb2, off2 + x * 3 + 2, none⟩ = some v2 := hcell 2 (show 2 < 3 by omega)
        have g0 := (HBV.out.cell (p := ⟨bb2, off2 + x * 3, none⟩) hbs2).trans c0
        have g1 := (HBV.out.cell (p := ⟨bb2, off2 + x * 3 + 1, none⟩) hbs2).trans c1
        have g2 := (HBV.out.cell (p := ⟨bb2, off2 + x * 3 + 2, none⟩) hbs2).trans c2
        have HENk := hid (HEN.out x hxl)
        have HR2 := hid h2
        obtain ⟨ub, uc2, rfl, -, -, -⟩ := rdsL_open h2
        clear c0 c1 c2 hcell HC2 h2
        generalize ds[x].entries_ = es at *
        generalize ds[x].owner_ = ow at *
        generalize ds[x].status_ = st at *
        obtain ⟨B, hB9⟩ : ∃ B, Hid (canL (stateN fs ds lg k) es = B) := ⟨_, hid rfl⟩
        have Hcall := hid (impl_commit0 (stateN fs ds lg k) ow st es fs.length Hlen.out w2.heap.size gv gc _ w V HBV.out (by omega) HR2.out HOV.out (fun i hi => HENk.out i hi) (by omega))
        have Hcl := hid (show comL (stateN fs ds lg k) es = if B = true then doL (stateN fs ds lg k) es else stateN fs ds lg k by rw [← hB9.out]; rfl)
        rw [hB9.out] at Hcall Hcd
        clear Hop Hcm Hccom Hcsee Hcnot Hscom Hsnot Hsee Hstay hx0
        go_wp2_with fail
        refine Hcall.out.mono ?_
        rintro e w6 ⟨rfl, o6, C6⟩
        have C6b := C6.mono (T := fun b => b = gv ∨ b = ga) (fun b hb => .inl hb)
        have HC6 := hid (HCV.out.trans C6b)
        have hs6 := C6.size
        cases B with
        | false =>
          have hv : EX = ((k : Int), 2) := by rw [Hex2.out, ← hS.out]; exact Hend.out 2 (by rw [Hcd.out]; rfl) (by decide)
          subst hv
          have HF := hid (below_chg HB4.out HC6.out HB4.out.size (fun b hb => by omega))
          clear Hex2 Hcall
          go_wp2
          go_ret2
          exact ⟨rfl, HF.out⟩
        | true =>
          have HO6 := hid (show w6.ownsRow w2.heap.size 3 1 (.slice (some ⟨gv, 0, none⟩) fs.length gc) fs.length ((stateN fs ds lg (k+1)).flatMap encI) by
            rw [Hscm.out, ← show comL (stateN fs ds lg k) es = doL (stateN fs ds lg k) es by rw [Hcl.out]; rfl]; exact o6)
          have HR6 := hid (owns_same OAV.out fun b hb => C6.block b (World.ownsRow.lt OAV.out b hb).2 (by have e : ga = b := Option.some.inj hb; omega))
          have Ha := hid (show attN fs ds lg (t : Int) (k+1) = att0 by rw [Hat.out _ rfl]; unfold attE; rw [if_neg (show ¬ (3 : Int) = 1 by decide), if_pos (show (3 : Int) = 3 ∨ (3 : Int) = 4 ∨ (3 : Int) = 5 from .inl rfl)])
          have Hx2 := hid (show Same (explTo fs ds lg m (k+1)) (explTo fs ds lg lg.length 0) from .mk (by rw [← hS.out]; exact (Hgo.out (by rw [Hcd.out]; rfl)).symm))
          have AM6 := hid (AMV.out.chg C6b)
          clear o6 C6 C6b Hcall Hcl Hcd Hscm g0 g1 g2 q2 y0 y1 y2 y3
          go_wp2_with (refine wpList_store_b17 rfl 111 _ _ rfl ga 111 ts.length ga ts.length t L HLT.out htl2 HR6.out zero17 rfl rfl (by kernel_rfl) rfl ?_)
          intro w7 r7 C7
          have C7b := C7.mono (T := fun b => b = gv ∨ b = ga) (fun b hb => .inr hb)
          have HR7 := hid r7
          have HC7 := hid (HC6.out.trans C7b)
          have HO7 := hid (owns_same HO6.out fun b hb => C7.block b (World.ownsRow.lt HO6.out b hb).2 (by have e : gv = b := Option.some.inj hb; omega))
          have AM7 := hid ((AM6.out.chg C7b).set (A' := fun j => attN fs ds lg (j : Int) (k+1)) t zero17 (.slice none 0 0) (fun j hj => Hne.out (j : Int) (by omega)) (by rw [Ha.out]; rfl) (by rw [Ha.out]; exact Flat.of_owns (nilRow12 w7 0 3)) (fun b hb => by cases hb))
          clear r7 C7 C7b HR6 AM6 HO6
          go_wp2
          go_roundw
          case rel => exact ⟨k+1, m, _, by omega, by go_num, Hx2.out, HO7, HR7, AM7, HC7⟩
          case measure => simp [intOf]; omega
      by_cases k45 : kd = 4 ∨ kd = 5
      · have Hs := hid (Hsnot.out (by omega))
        have Ha := hid (show attN fs ds lg (t : Int) (k+1) = att0 by rw [Hat.out _ rfl]; unfold attE; rw [if_neg (by dsimp only; omega), if_pos (by dsimp only; omega)])
        have Hx2 := hid (show Same (explTo fs ds lg m (k+1)) (explTo fs ds lg lg.length 0) from .mk (by rw [← hS.out]; exact (Hgo.out (Hcnot.out (by omega) (by omega))).symm))
        have HO6 := hid (show V.ownsRow w2.heap.size 3 1 (.slice (some ⟨gv, 0, none⟩) fs.length gc) fs.length ((stateN fs ds lg (k+1)).flatMap encI) by rw [Hs.out]; exact HOV.out)
        have hkk : Hid (kd = 4 ∨ kd = 5) := hid k45
        clear Hop Hcm Hccom Hcsee Hcnot Hscom Hsnot Hsee Hstay Hgo Hend k45
        rcases hkk with e4 | e5
        · subst e4
          go_wp2_with (refine wpList_store_b17 rfl 111 _ _ rfl ga 111 ts.length ga ts.length t L HLT.out htl2 OAV.out zero17 rfl rfl (by kernel_rfl) rfl ?_)
          intro w7 r7 C7
          have C7b := C7.mono (T := fun b => b = gv ∨ b = ga) (fun b hb => .inr hb); have HR7 := hid r7; have HC7 := hid (HCV.out.trans C7b); have HO7 := hid (owns_same HO6.out fun b hb => C7.block b (World.ownsRow.lt HO6.out b hb).2 (by have e : gv = b := Option.some.inj hb; omega)); have AM7 := hid ((AMV.out.chg C7b).set (A' := fun j => attN fs ds lg (j : Int) (k+1)) t zero17 (.slice none 0 0) (fun j hj => Hne.out (j : Int) (by omega)) (by rw [Ha.out]; rfl) (by rw [Ha.out]; exact Flat.of_owns (nilRow12 w7 0 3)) (fun b hb => by cases hb)); clear r7 C7 C7b
          go_wp2
          go_roundw
          case rel => exact ⟨k+1, m, _, by omega, by go_num, Hx2.out, HO7, HR7, AM7, HC7⟩
          case measure => simp [intOf]; omega
        · subst e5
          go_wp2_with (refine wpList_store_b17 rfl 111 _ _ rfl ga 111 ts.length ga ts.length t L HLT.out htl2 OAV.out zero17 rfl rfl (by kernel_rfl) rfl ?_)
          intro w7 r7 C7
          have C7b := C7.mono (T := fun b => b = gv ∨ b = ga) (fun b hb => .inr hb); have HR7 := hid r7; have HC7 := hid (HCV.out.trans C7b); have HO7 := hid (owns_same HO6.out fun b hb => C7.block b (World.ownsRow.lt HO6.out b hb).2 (by have e : gv = b := Option.some.inj hb; omega)); have AM7 := hid ((AMV.out.chg C7b).set (A' := fun j => attN fs ds lg (j : Int) (k+1)) t zero17 (.slice none 0 0) (fun j hj => Hne.out (j : Int) (by omega)) (by rw [Ha.out]; rfl) (by rw [Ha.out]; exact Flat.of_owns (nilRow12 w7 0 3)) (fun b hb => by cases hb)); clear r7 C7 C7b
          go_wp2
          go_roundw
          case rel => exact ⟨k+1, m, _, by omega, by go_num, Hx2.out, HO7, HR7, AM7, HC7⟩
          case measure => simp [intOf]; omega
      have Hs := hid (Hsnot.out k3)
      have Hx2 := hid (show Same (explTo fs ds lg m (k+1)) (explTo fs ds lg lg.length 0) from .mk (by rw [← hS.out]; exact (Hgo.out (Hcnot.out k3 k2)).symm))
      have HO6 := hid (show V.ownsRow w2.heap.size 3 1 (.slice (some ⟨gv, 0, none⟩) fs.length gc) fs.length ((stateN fs ds lg (k+1)).flatMap encI) by rw [Hs.out]; exact HOV.out)
      have AM6 := hid (AMV.out.same (A' := fun j => attN fs ds lg (j : Int) (k+1)) fun j => Hstay.out (j : Int) k1 k3 (by omega) (by omega))
      have k4 : ¬ kd = 4 := by omega
      have k5 : ¬ kd = 5 := by omega
      clear Hop Hcm Hccom Hcsee Hcnot Hscom Hsnot Hsee Hstay Hgo Hend k45
      go_wp2
      go_roundw
      case rel => exact ⟨k+1, m, L, by omega, by go_num, Hx2.out, HO6, OAV, AM6, HCV⟩
      case measure => simp [intOf]; omega
    · obtain rfl : m = 0 := by omega
      have hv : EX = (-1, 0) := by rw [Hex2.out, ← hS.out]; rfl
      subst hv
      have hkl : ¬ (k : Int) < (lg.length : Int) := by omega
      go_wp2
      go_ret2
      exact ⟨rfl, HBr.out⟩
end Go.Proofs.YtbbdchlabdilcaaGreat
