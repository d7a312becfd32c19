/- Chapter 1's model functions: ops merged by turns. -/
import Derived.Test.YtfhkngmankmehaaF1
import Derived.Test.YtfhkngmankmehaaSl
namespace Go.Proofs.Ytfhkngmankmehaa
open Go.RowKit Go.Proofs Go.Own

/-- The ops of two threads by turns. -/
def mergedF : List Bool → List WordOp → List WordOp → List WordOp
  | _, [], b => b
  | _, a, [] => a
  | [], a, b => a ++ b
  | t :: ts, x :: a, y :: b => if t = true then y :: mergedF ts (x :: a) b else x :: mergedF ts a (y :: b)
theorem mergedF_nilL (ts : List Bool) (b : List WordOp) : mergedF ts [] b = b := by cases ts <;> cases b <;> rfl
theorem mergedF_nilR (ts : List Bool) (a : List WordOp) : mergedF ts a [] = a := by cases ts <;> cases a <;> rfl
theorem mergedF_end (a b : List WordOp) : mergedF [] a b = a ++ b := by cases a <;> cases b <;> simp [mergedF]
theorem mergedF_b (ts : List Bool) (x y : WordOp) (a b : List WordOp) : mergedF (true :: ts) (x :: a) (y :: b) = y :: mergedF ts (x :: a) b := by simp [mergedF]
theorem mergedF_a (ts : List Bool) (x y : WordOp) (a b : List WordOp) : mergedF (false :: ts) (x :: a) (y :: b) = x :: mergedF ts a (y :: b) := by simp [mergedF]
theorem mergedF_len : ∀ (ts : List Bool) (a b : List WordOp), (mergedF ts a b).length = a.length + b.length
  | ts, [], b => by rw [mergedF_nilL]; simp
  | ts, x :: a, [] => by rw [mergedF_nilR]; simp
  | [], x :: a, y :: b => by rw [mergedF_end, List.length_append]
  | true :: ts, x :: a, y :: b => by rw [mergedF_b, List.length_cons, mergedF_len ts (x :: a) b]; simp only [List.length_cons]; omega
  | false :: ts, x :: a, y :: b => by rw [mergedF_a, List.length_cons, mergedF_len ts a (y :: b)]; simp only [List.length_cons]; omega
/-- The rest, from a's i-th, b's k-th op and the t-th turn on. -/
def rest (ts : List Bool) (a b : List WordOp) (t i k : Nat) : List WordOp := mergedF (ts.drop t) (a.drop i) (b.drop k)
theorem rest_b (ts : List Bool) (a b : List WordOp) (t i k : Nat) (ht : t < ts.length) (hk : k < b.length) (h : ts[t] = true ∨ i = a.length) : rest ts a b t i k = b[k] :: rest ts a b (t+1) i (k+1) := by
  unfold rest
  rw [List.drop_eq_getElem_cons ht, List.drop_eq_getElem_cons hk]
  cases ha : a.drop i with
  | nil => rw [mergedF_nilL, mergedF_nilL]
  | cons x a' =>
    rcases h with h | h
    · rw [h, mergedF_b]
    · rw [h, List.drop_length] at ha; cases ha
theorem rest_a (ts : List Bool) (a b : List WordOp) (t i k : Nat) (ht : t < ts.length) (hi : i < a.length) (h : ts[t] = false ∨ ¬ k < b.length) : rest ts a b t i k = a[i] :: rest ts a b (t+1) (i+1) k := by
  unfold rest
  rw [List.drop_eq_getElem_cons ht, List.drop_eq_getElem_cons hi]
  cases hb : b.drop k with
  | nil => rw [mergedF_nilR, mergedF_nilR]
  | cons y b' =>
    rcases h with h | h
    · rw [h, mergedF_a]
    · rw [List.drop_eq_nil_of_le (by omega)] at hb; cases hb
theorem rest_end (ts : List Bool) (a b : List WordOp) (t i k : Nat) (h : ¬ t < ts.length ∨ ¬ i < a.length ∨ ¬ k < b.length) : rest ts a b t i k = a.drop i ++ b.drop k := by
  unfold rest
  rcases h with h | h | h
  · rw [List.drop_eq_nil_of_le (by omega : ts.length ≤ t), mergedF_end]
  · rw [List.drop_eq_nil_of_le (by omega : a.length ≤ i), mergedF_nilL]; rfl
  · rw [List.drop_eq_nil_of_le (by omega : b.length ≤ k), mergedF_nilR, List.append_nil]
theorem enc_snoc (L : List WordOp) (o : WordOp) : L.flatMap WordOp.enc ++ [.int .i64 o.kind_, .int .i64 o.at_, .int .i64 o.old_, .int .i64 o.new_] = (L ++ [o]).flatMap WordOp.enc := by simp [WordOp.enc]
theorem oneCell_W (o : WordOp) : ∀ c ∈ o.enc, c.oneCell' = true := by
  intro c hc
  simp [WordOp.enc] at hc
  rcases hc with rfl | rfl | rfl | rfl <;> rfl
/-- The cells of a block that holds one op. -/
theorem opcells (w : World) (o : WordOp) (t : TypeId) : ∀ j u, o.enc[j]? = some u → (w.alloc (.cells #[.int .i64 o.kind_, .int .i64 o.at_, .int .i64 o.old_, .int .i64 o.new_] t)).cell? ((⟨w.heap.size, 0, none⟩ : Addr).add j) = some u := by
  intro j u hu
  match j, hu with
  | 0, hu => simp [WordOp.enc] at hu; subst hu; simp [Addr.add]
  | 1, hu => simp [WordOp.enc] at hu; subst hu; simp [Addr.add]
  | 2, hu => simp [WordOp.enc] at hu; subst hu; simp [Addr.add]
  | 3, hu => simp [WordOp.enc] at hu; subst hu; simp [Addr.add]
  | j+4, hu => simp [WordOp.enc] at hu

set_option maxHeartbeats 1000000 in
theorem spec_Merged (v : Value) (a : List WordOp) (u1 : Value) (b : List WordOp) (u2 : Value) (ts : List Bool) (w : World) (h : WordOps w v a) (hx : a.length ≤ 1048576) (g1 : WordOps w u1 b) (hg1 : b.length ≤ 1048576) (g2 : Bools w u2 ts) (hg2 : ts.length ≤ 1048576) :
    Calls Try.prog 26 #[v, u1, u2] w fun e w' => ∃ v', e = .returned v' ∧ WordOps w' v' (mergedF ts a b) ∧ Below w.heap.size w w' := by
  obtain ⟨i0, hi, hz0, hz1, hz2⟩ := info_parts infoWordOp
  obtain ⟨ad, cap, rfl, hl, hm, hc⟩ := h.open
  obtain ⟨ad1, cap1, rfl, hl1, hm1, hc1⟩ := g1.open
  obtain ⟨ad2, cap2, rfl, hl2, hm2, hc2⟩ := g2.open
  have ho0 : (w.alloc (.cells #[] 30)).ownsRow w.heap.size 30 4 (.slice (some ⟨w.heap.size, 0, none⟩) 0 0) 0 [] := World.ownsRow_made _ _ _ (Nat.le_refl _) (Nat.zero_le _) rfl
  have hB0 : Below w.heap.size w (w.alloc (.cells #[] 30)) := (Below.refl _ _).alloc (Nat.le_refl _) _
  go_enter Try.func26, Try.ntmps26
  go_wp2
  generalize w.alloc (.cells #[] 30) = W0 at *
  go_loopw [7, 8, 9, 10] (fun o i k t wr => ∃ (n m q : Nat) (L : List WordOp), n ≤ a.length ∧ m ≤ b.length ∧ q ≤ ts.length ∧ L.length = n + m ∧ i = .int .i64 n ∧ k = .int .i64 m ∧ t = .int .i64 q ∧ wr.ownsRow w.heap.size 30 4 o (n + m) (L.flatMap WordOp.enc) ∧ Same (mergedF ts a b) (L ++ rest ts a b q n m) ∧ Below w.heap.size w wr) (fun _ _ _ t _ => ts.length - (intOf t).toNat)
  case atStart => exact ⟨0, 0, 0, [], by omega, by omega, by omega, rfl, rfl, rfl, rfl, ho0, .mk rfl, hB0⟩
  case round =>
    clear ho0 hB0
    obtain ⟨n, m, q, L, hn, hmb, hq, hL, rfl, rfl, rfl, ho, hall, hB⟩ := hrel
    have HL := hid hL
    have hsz := hB.size
    clear hL
    by_cases hgo : q < ts.length ∧ n + m < a.length + b.length
    case neg =>
      have hre := hid (rest_end ts a b q n m (by omega))
      obtain ⟨va, hra, hfa⟩ := slice_from Try.underlying38 hi hz1 h n hn
      obtain ⟨vb, hrb, hfb⟩ := slice_from Try.underlying38 hi hz1 g1 m hmb
      rw [drop_flatMap WordOp.enc 4 (fun _ => rfl)] at hfa hfb
      have hfa2 := Flat.below (w := w) hfa hB
      have honea := hid (oneCell_enc oneCell_W (a.drop n))
      have honeb := hid (oneCell_enc oneCell_W (b.drop m))
      have hout : ¬ q < ts.length ∨ (q < ts.length ∧ ¬ n + m < a.length + b.length) := by omega
      clear hc hc1 hc2 hgo
      rcases hout with hq1 | ⟨hq1, hnm⟩
      all_goals
        go_wp2_with (at_builtin; refine wpList_append_flat rfl _ _ 38 rfl w.heap.size 30 i0 _ 4 32 Try.underlying38 hi hz0 hz1 hz2 rfl (by decide) _ _ _ rfl ho _ _ _ rfl hfa2 honea.out (by unfold maxLen; omega) (by omega) (by omega) ?_)
        intro v1 w1 ho1 hgr1
        have hB1 := hB.trans (below_of_mark (N := w.heap.size) ho hgr1 (Nat.le_refl _) (by omega))
        have hfb2 := Flat.below (w := w) hfb hB1
        have hs1 := hB1.size
        go_wp2_with (at_builtin; refine wpList_append_flat rfl _ _ 38 rfl w.heap.size 30 i0 _ 4 32 Try.underlying38 hi hz0 hz1 hz2 rfl (by decide) _ _ _ rfl ho1 _ _ _ rfl hfb2 honeb.out (by unfold maxLen; omega) (by omega) (by omega) ?_)
        intro v2 w2 ho2 hgr2
        have hB2 := hB1.trans (below_of_mark (N := w.heap.size) ho1 hgr2 (Nat.le_refl _) (by omega))
        go_wp2
        go_ret
        refine ⟨_, rfl, ?_, hB2⟩
        have hlen := mergedF_len ts a b
        unfold WordOps
        rw [hlen, hall.out, hre.out]
        rw [← List.flatMap_append, ← List.flatMap_append] at ho2
        have e : n + m + (a.length - n) + (b.length - m) = a.length + b.length := by omega
        rw [e] at ho2
        exact Flat.of_owns ho2
    obtain ⟨hq1, hnm⟩ := hgo
    obtain ⟨bb, off, rfl, hbs, q1⟩ := hc2 q hq1
    rw [← hB.cell (p := ⟨bb, off + q, none⟩) hbs] at q1
    clear hc2
    have hcase : (ts[q] = true ∧ m < b.length) ∨ (ts[q] = true ∧ ¬ m < b.length) ∨ (ts[q] = false ∧ n = a.length) ∨ (ts[q] = false ∧ n ≠ a.length) := by
      cases ts[q] <;> simp <;> omega
    rcases hcase with ⟨ht, hm1⟩ | ⟨ht, hm1⟩ | ⟨ht, hm1⟩ | ⟨ht, hm1⟩
    · have hre := hid (rest_b ts a b q n m hq1 hm1 (.inl ht))
      rw [ht] at q1
      obtain ⟨b1, off1, rfl, hbs1, c0, c1, c2, c3⟩ := hc1 m hm1
      have kc : ∀ o, wr.cell? ⟨b1, o, none⟩ = w.cell? ⟨b1, o, none⟩ := fun o => hB.cell (p := ⟨b1, o, none⟩) hbs1
      rw [← kc] at c0 c1 c2 c3
      clear hc hc1 kc ht
      all_goals
        go_wp2_with (at_builtin; refine wpList_append_own _ rfl _ _ 38 rfl w.heap.size 30 i0 _ 4 32 Try.underlying38 hi hz0 hz1 hz2 rfl (by decide) _ _ _ rfl (ho.alloc _) ⟨wr.heap.size, 0, none⟩ 1 1 (WordOp.enc b[m]) rfl rfl (opcells _ _ _) (oneCell_W _) (by unfold maxLen; omega) (by omega) (by simp; omega) ?_)
        intro t3 w3 ho3 hg3 _
        have hB3 := (hB.trans ((Below.refl _ _).alloc (by omega) _)).trans (below_of_mark (N := w.heap.size) (ho.alloc (.cells #[.int .i64 b[m].kind_, .int .i64 b[m].at_, .int .i64 b[m].old_, .int .i64 b[m].new_] 30)) hg3 (Nat.le_refl _) (by simp; omega))
        have ho4 : w3.ownsRow w.heap.size 30 4 t3 (n + m + 1) ((L ++ [b[m]]).flatMap WordOp.enc) := by rw [List.flatMap_append]; simpa using ho3
        clear ho3 hg3
        go_wp2
        go_roundw
        case rel => exact ⟨n, m+1, q+1, L ++ [b[m]], by omega, by omega, by omega, by rw [List.length_append, HL.out, List.length_singleton]; omega, by go_num, by go_num, by go_num, by first | exact ho4 | (rw [show n + (m + 1) = n + m + 1 from rfl]; exact ho4) | (rw [show n + 1 + m = n + m + 1 from by omega]; exact ho4), .mk (by rw [hall.out, hre.out, List.append_assoc, List.singleton_append]), hB3⟩
        case measure => simp [intOf]; omega
    · have hnlt : n < a.length := by omega
      have hre := hid (rest_a ts a b q n m hq1 hnlt (.inr hm1))
      have hne : ((n : Int) == (a.length : Int)) = false := by simp; omega
      rw [ht] at q1
      obtain ⟨b1, off1, rfl, hbs1, c0, c1, c2, c3⟩ := hc n hnlt
      have kc : ∀ o, wr.cell? ⟨b1, o, none⟩ = w.cell? ⟨b1, o, none⟩ := fun o => hB.cell (p := ⟨b1, o, none⟩) hbs1
      rw [← kc] at c0 c1 c2 c3
      clear hc hc1 kc ht
      all_goals
        go_wp2_with (at_builtin; refine wpList_append_own _ rfl _ _ 38 rfl w.heap.size 30 i0 _ 4 32 Try.underlying38 hi hz0 hz1 hz2 rfl (by decide) _ _ _ rfl (ho.alloc _) ⟨wr.heap.size, 0, none⟩ 1 1 (WordOp.enc a[n]) rfl rfl (opcells _ _ _) (oneCell_W _) (by unfold maxLen; omega) (by omega) (by simp; omega) ?_)
        intro t3 w3 ho3 hg3 _
        have hB3 := (hB.trans ((Below.refl _ _).alloc (by omega) _)).trans (below_of_mark (N := w.heap.size) (ho.alloc (.cells #[.int .i64 a[n].kind_, .int .i64 a[n].at_, .int .i64 a[n].old_, .int .i64 a[n].new_] 30)) hg3 (Nat.le_refl _) (by simp; omega))
        have ho4 : w3.ownsRow w.heap.size 30 4 t3 (n + m + 1) ((L ++ [a[n]]).flatMap WordOp.enc) := by rw [List.flatMap_append]; simpa using ho3
        clear ho3 hg3
        go_wp2
        go_roundw
        case rel => exact ⟨n+1, m, q+1, L ++ [a[n]], by omega, by omega, by omega, by rw [List.length_append, HL.out, List.length_singleton]; omega, by go_num, by go_num, by go_num, by first | exact ho4 | (rw [show n + (m + 1) = n + m + 1 from rfl]; exact ho4) | (rw [show n + 1 + m = n + m + 1 from by omega]; exact ho4), .mk (by rw [hall.out, hre.out, List.append_assoc, List.singleton_append]), hB3⟩
        case measure => simp [intOf]; omega
    · have hmlt : m < b.length := by omega
      have hre := hid (rest_b ts a b q n m hq1 hmlt (.inr hm1))
      have hne : ((n : Int) == (a.length : Int)) = true := by simp; omega
      rw [ht] at q1
      obtain ⟨b1, off1, rfl, hbs1, c0, c1, c2, c3⟩ := hc1 m hmlt
      have kc : ∀ o, wr.cell? ⟨b1, o, none⟩ = w.cell? ⟨b1, o, none⟩ := fun o => hB.cell (p := ⟨b1, o, none⟩) hbs1
      rw [← kc] at c0 c1 c2 c3
      have Hm1 := hid hm1
      clear hc hc1 kc ht hm1
      all_goals
        go_wp2_with (at_builtin; refine wpList_append_own _ rfl _ _ 38 rfl w.heap.size 30 i0 _ 4 32 Try.underlying38 hi hz0 hz1 hz2 rfl (by decide) _ _ _ rfl (ho.alloc _) ⟨wr.heap.size, 0, none⟩ 1 1 (WordOp.enc b[m]) rfl rfl (opcells _ _ _) (oneCell_W _) (by unfold maxLen; omega) (by omega) (by simp; omega) ?_)
        intro t3 w3 ho3 hg3 _
        have hB3 := (hB.trans ((Below.refl _ _).alloc (by omega) _)).trans (below_of_mark (N := w.heap.size) (ho.alloc (.cells #[.int .i64 b[m].kind_, .int .i64 b[m].at_, .int .i64 b[m].old_, .int .i64 b[m].new_] 30)) hg3 (Nat.le_refl _) (by simp; omega))
        have ho4 : w3.ownsRow w.heap.size 30 4 t3 (n + m + 1) ((L ++ [b[m]]).flatMap WordOp.enc) := by rw [List.flatMap_append]; simpa using ho3
        clear ho3 hg3
        go_wp2
        go_roundw
        case rel => exact ⟨n, m+1, q+1, L ++ [b[m]], by omega, by omega, by omega, by rw [List.length_append, HL.out, List.length_singleton]; omega, by go_num, by go_num, by go_num, by first | exact ho4 | (rw [show n + (m + 1) = n + m + 1 from rfl]; exact ho4) | (rw [show n + 1 + m = n + m + 1 from by omega]; exact ho4), .mk (by rw [hall.out, hre.out, List.append_assoc, List.singleton_append]), hB3⟩
        case measure => simp [intOf]; omega
    · have hnlt : n < a.length := by omega
      have hre := hid (rest_a ts a b q n m hq1 hnlt (.inl ht))
      have hne : ((n : Int) == (a.length : Int)) = false := by simp; omega
      rw [ht] at q1
      obtain ⟨b1, off1, rfl, hbs1, c0, c1, c2, c3⟩ := hc n hnlt
      have kc : ∀ o, wr.cell? ⟨b1, o, none⟩ = w.cell? ⟨b1, o, none⟩ := fun o => hB.cell (p := ⟨b1, o, none⟩) hbs1
      rw [← kc] at c0 c1 c2 c3
      have Hm1 := hid hm1
      clear hc hc1 kc ht hm1
      all_goals
        go_wp2_with (at_builtin; refine wpList_append_own _ rfl _ _ 38 rfl w.heap.size 30 i0 _ 4 32 Try.underlying38 hi hz0 hz1 hz2 rfl (by decide) _ _ _ rfl (ho.alloc _) ⟨wr.heap.size, 0, none⟩ 1 1 (WordOp.enc a[n]) rfl rfl (opcells _ _ _) (oneCell_W _) (by unfold maxLen; omega) (by omega) (by simp; omega) ?_)
        intro t3 w3 ho3 hg3 _
        have hB3 := (hB.trans ((Below.refl _ _).alloc (by omega) _)).trans (below_of_mark (N := w.heap.size) (ho.alloc (.cells #[.int .i64 a[n].kind_, .int .i64 a[n].at_, .int .i64 a[n].old_, .int .i64 a[n].new_] 30)) hg3 (Nat.le_refl _) (by simp; omega))
        have ho4 : w3.ownsRow w.heap.size 30 4 t3 (n + m + 1) ((L ++ [a[n]]).flatMap WordOp.enc) := by rw [List.flatMap_append]; simpa using ho3
        clear ho3 hg3
        go_wp2
        go_roundw
        case rel => exact ⟨n+1, m, q+1, L ++ [a[n]], by omega, by omega, by omega, by rw [List.length_append, HL.out, List.length_singleton]; omega, by go_num, by go_num, by go_num, by first | exact ho4 | (rw [show n + (m + 1) = n + m + 1 from rfl]; exact ho4) | (rw [show n + 1 + m = n + m + 1 from by omega]; exact ho4), .mk (by rw [hall.out, hre.out, List.append_assoc, List.singleton_append]), hB3⟩
        case measure => simp [intOf]; omega
end Go.Proofs.Ytfhkngmankmehaa
