/- Chapter 15: the model's way and the program's way to see that a tree is so come to the same. -/
import Derived.Test.YtdgmbcmgjadoiaaF15
namespace Go.Proofs.Ytdgmbcmgjadoiaa
set_option maxRecDepth 100000
open Go.RowKit Go.Proofs Go.Own
open Go Go.BigFrame
set_option linter.unusedVariables false
def SortP (L : List Twig) (xs : List Int) : Prop := xs.Pairwise (fun p q => (tw L p).key_ < (tw L q).key_)
theorem Part.in {L : List Twig} {p : Int} {xs : List Int} (h : Part L p xs) : ∀ q ∈ xs, inB q 0 15 = true ∧ (tw L q).used_ = true := by
  induction h with
  | none => simp
  | twig p xs ys h hu hl hr ih1 ih2 =>
    intro q hq
    rw [List.mem_append, List.mem_cons] at hq
    rcases hq with hq | rfl | hq
    · exact ih1 q hq
    · exact ⟨h, hu⟩
    · exact ih2 q hq
theorem Part.place {L : List Twig} {p : Int} {xs : List Int} (h : Part L p xs) : p = -1 ∧ xs = [] ∨ ∃ ys zs, inB p 0 15 = true ∧ (tw L p).used_ = true ∧ Part L (tw L p).left_ ys ∧ Part L (tw L p).right_ zs ∧ xs = ys ++ p :: zs := by
  cases h with
  | none => exact .inl ⟨rfl, rfl⟩
  | twig p xs ys h hu hl hr => exact .inr ⟨xs, ys, h, hu, hl, hr, rfl⟩
theorem inB_nn {p : Int} (h : inB p 0 15 = true) : 0 ≤ p ∧ p ≤ 15 := by simpa [inB] using h
theorem Part.inv {L : List Twig} {p : Int} {xs : List Int} (h : Part L p xs) (hp : ¬ p = -1) : ∃ ys zs, inB p 0 15 = true ∧ (tw L p).used_ = true ∧ Part L (tw L p).left_ ys ∧ Part L (tw L p).right_ zs ∧ xs = ys ++ p :: zs := by
  rcases h.place with h | h
  · exact absurd h.1 hp
  · exact h
theorem Part.nil_iff {L : List Twig} {p : Int} {xs : List Int} (h : Part L p xs) : p = -1 ↔ xs = [] := by
  rcases h.place with h9 | ⟨ys, zs, h9, _, _, _, rfl⟩
  · simp [h9.1, h9.2]
  · have := inB_nn h9
    constructor
    · intro e; omega
    · intro e; simp at e
/-- What the model lists is a part. -/
theorem keysT_part (L : List Twig) : ∀ (f : Nat) (M : List Twig) (p : Int) (out r : List Int), (∀ q : Int, (tw M q).used_ = true → tw M q = tw L q) → keysT f M p out = (r, true) → ∃ xs, r = out ++ xs ∧ Part L p xs
  | 0, M, p, out, r, hM, h => by
    unfold keysT at h
    simp only [Prod.mk.injEq, decide_eq_true_eq] at h
    obtain ⟨rfl, rfl⟩ := h
    exact ⟨[], by simp, .none⟩
  | f+1, M, p, out, r, hM, h => by
    unfold keysT at h
    split at h
    · rename_i hp
      simp only [Prod.mk.injEq, and_true] at h
      subst h hp
      exact ⟨[], by simp, .none⟩
    · split at h
      · rename_i hp h1
        simp only [Bool.and_eq_true, decide_eq_true_eq] at h1
        have hMp := hM p h1.1.2
        have hM2 : ∀ q : Int, (tw (M.set p.toNat zTwig) q).used_ = true → tw (M.set p.toNat zTwig) q = tw L q := fun q hq => by
          by_cases e : q.toNat = p.toNat
          · by_cases hl : p.toNat < M.length
            · rw [tw_set_self M _ hl zTwig q e] at hq; cases hq
            · rw [show M.set p.toNat zTwig = M from List.set_eq_of_length_le (by omega)] at hq ⊢; exact hM q hq
          · rw [tw_set_ne M _ zTwig q e] at hq ⊢; exact hM q hq
        split at h
        · rename_i h2
          simp only [Bool.and_eq_true, decide_eq_true_eq] at h2
          obtain ⟨xs, e1, p1⟩ := keysT_part L f (M.set p.toNat zTwig) (tw M p).left_ out (keysT f (M.set p.toNat zTwig) (tw M p).left_ out).1 hM2 (by rw [← h2.1])
          obtain ⟨ys, e2, p2⟩ := keysT_part L f _ _ _ _ hM2 h
          refine ⟨xs ++ p :: ys, by rw [e2, e1]; simp, ?_⟩
          rw [hMp] at p1 p2
          exact .twig p xs ys h1.1.1 (by rw [← hMp]; exact h1.1.2) p1 p2
        · simp at h
      · simp at h
/-- A part is what the model lists. -/
theorem part_keysT {L : List Twig} {p : Int} {xs : List Int} (h : Part L p xs) : ∀ (f : Nat) (M : List Twig) (out : List Int), xs.Nodup → out.length + xs.length ≤ 16 → (∀ q ∈ xs, tw M q = tw L q) → xs.length ≤ f → keysT f M p out = (out ++ xs, true) := by
  induction h with
  | none => intro f M out _ _ _ _; cases f <;> simp [keysT]
  | twig p xs ys h hu hl hr ih1 ih2 =>
    intro f M out hn hlen hM hf
    simp only [List.length_append, List.length_cons] at hlen hf
    cases f with
    | zero => omega
    | succ f =>
      have hp := inB_nn h
      have hMp := hM p (by simp)
      have hn2 := List.nodup_append.1 hn
      have hn3 := List.nodup_cons.1 hn2.2.1
      have hx : ∀ q ∈ xs, tw (M.set p.toNat zTwig) q = tw L q := fun q hq => by
        have hqp : ¬ q = p := fun e => hn2.2.2 q hq p (by simp) e
        have := inB_nn (hl.in q hq).1
        rw [tw_set_ne M _ zTwig q (by omega)]
        exact hM q (by simp [hq])
      have hy : ∀ q ∈ ys, tw (M.set p.toNat zTwig) q = tw L q := fun q hq => by
        have hqp : ¬ q = p := fun e => hn3.1 (by rw [← e]; exact hq)
        have := inB_nn (hr.in q hq).1
        rw [tw_set_ne M _ zTwig q (by omega)]
        exact hM q (by simp [hq])
      unfold keysT
      rw [if_neg (by omega), if_pos (by rw [h, hMp, hu]; simp; omega), hMp, ih1 f _ out hn2.1 (by omega) hx (by omega)]
      simp only [Bool.true_and, decide_eq_true_eq]
      rw [if_pos (by simp; omega), ih2 f _ _ hn3.2 (by simp; omega) hy (by omega)]
      simp
theorem ascT_sort (L : List Twig) : ∀ xs : List Int, ascT L xs = true ↔ SortP L xs
  | [] => by simp [ascT, SortP]
  | [a] => by simp [ascT, SortP]
  | a :: b :: r => by
    have ih := ascT_sort L (b :: r)
    rw [show ascT L (a :: b :: r) = (decide ((tw L a).key_ < (tw L b).key_) && ascT L (b :: r)) from rfl]
    unfold SortP at *
    rw [Bool.and_eq_true, decide_eq_true_eq, List.pairwise_cons]
    constructor
    · rintro ⟨h1, h2⟩
      have h3 := ih.1 h2
      refine ⟨fun c hc => ?_, h3⟩
      rcases List.mem_cons.1 hc with rfl | hc
      · exact h1
      · exact Int.lt_trans h1 ((List.pairwise_cons.1 h3).1 c hc)
    · rintro ⟨h1, h2⟩
      exact ⟨h1 b (by simp), ih.2 h2⟩
theorem SortP.nodup {L : List Twig} {xs : List Int} (h : SortP L xs) : xs.Nodup := by
  unfold SortP at h
  exact List.Pairwise.imp (fun hab e => by rw [e] at hab; omega) h
theorem cnt_part (L : List Twig) (hL : L.length = 16) (hA : ∀ x ∈ L, x.used_ = true → linkB x.left_ = true ∧ linkB x.right_ = true) : ∀ (f : Nat) (p a b : Int) (n : Nat), linkB p = true → cntT L f p a b = (n, true) → ∃ xs, Part L p xs ∧ n = xs.length ∧ SortP L xs ∧ ∀ q ∈ xs, a < (tw L q).key_ ∧ (tw L q).key_ < b
  | 0, p, a, b, n, hp, h => by
    unfold cntT at h
    simp only [Prod.mk.injEq, decide_eq_true_eq] at h
    obtain ⟨rfl, rfl⟩ := h
    exact ⟨[], .none, rfl, by simp [SortP], by simp⟩
  | f+1, p, a, b, n, hp, h => by
    unfold cntT at h
    split at h
    · rename_i hq
      simp only [Prod.mk.injEq, and_true] at h
      subst h hq
      exact ⟨[], .none, rfl, by simp [SortP], by simp⟩
    · rename_i hq
      have hpl : inB p 0 15 = true := by unfold linkB at hp; simpa [hq] using hp
      split at h
      · rename_i h9
        simp only [Bool.and_eq_true, decide_eq_true_eq] at h9
        simp only [Prod.mk.injEq, Bool.and_eq_true] at h
        obtain ⟨rfl, h1, h2⟩ := h
        have hx := hA _ (List.getElem_mem (pl_lt hL hpl)) (by rw [← tw_eq L p (pl_lt hL hpl)]; exact h9.1.1)
        rw [← tw_eq L p (pl_lt hL hpl)] at hx
        obtain ⟨xs, px, nx, sx, bx⟩ := cnt_part L hL hA f (tw L p).left_ a (tw L p).key_ (cntT L f (tw L p).left_ a (tw L p).key_).fst hx.1 (Prod.ext rfl h1)
        obtain ⟨ys, py, ny, sy, by_⟩ := cnt_part L hL hA f (tw L p).right_ (tw L p).key_ b (cntT L f (tw L p).right_ (tw L p).key_ b).fst hx.2 (Prod.ext rfl h2)
        refine ⟨xs ++ p :: ys, .twig p xs ys hpl h9.1.1 px py, by simp only [List.length_append, List.length_cons]; omega, ?_, ?_⟩
        · unfold SortP
          rw [List.pairwise_append]
          refine ⟨sx, List.pairwise_cons.2 ⟨fun q hq => (by_ q hq).1, sy⟩, fun q hq1 r hr => ?_⟩
          rcases List.mem_cons.1 hr with rfl | hr
          · exact (bx q hq1).2
          · exact Int.lt_trans (bx q hq1).2 (by_ r hr).1
        · intro q hq
          rw [List.mem_append, List.mem_cons] at hq
          rcases hq with hq | rfl | hq
          · exact ⟨(bx q hq).1, Int.lt_trans (bx q hq).2 h9.2⟩
          · exact ⟨h9.1.2, h9.2⟩
          · exact ⟨Int.lt_trans h9.1.2 (by_ q hq).1, (by_ q hq).2⟩
      · simp at h
theorem part_cnt {L : List Twig} {p : Int} {xs : List Int} (h : Part L p xs) : ∀ (f : Nat) (a b : Int), SortP L xs → (∀ q ∈ xs, a < (tw L q).key_ ∧ (tw L q).key_ < b) → xs.length ≤ f → cntT L f p a b = (xs.length, true) := by
  induction h with
  | none => intro f a b _ _ _; cases f <;> simp [cntT]
  | twig p xs ys h hu hl hr ih1 ih2 =>
    intro f a b hs hb hf
    simp only [List.length_append, List.length_cons] at hf
    cases f with
    | zero => omega
    | succ f =>
      have hp := inB_nn h
      have hbp := hb p (by simp)
      unfold SortP at hs
      rw [List.pairwise_append, List.pairwise_cons] at hs
      unfold cntT
      rw [if_neg (by omega), if_pos (by rw [hu]; simp; exact hbp), ih1 f _ _ hs.1 (fun q hq => ⟨(hb q (by simp [hq])).1, hs.2.2 q hq p (by simp)⟩) (by omega), ih2 f _ _ hs.2.1.2 (fun q hq => ⟨hs.2.1.1 q hq, (hb q (by simp [hq])).2⟩) (by omega)]
      simp; omega
theorem full_ofT {α : Type} [DecidableEq α] : ∀ (vis U : List α), vis.Nodup → (∀ x, x ∈ vis → x ∈ U) → U.length ≤ vis.length → ∀ x, x ∈ U → x ∈ vis
  | [], U, _, _, hl, x, hx => by cases U with
    | nil => exact hx
    | cons a U => simp at hl
  | a :: vis, U, hn, hs, hl, x, hx => by
    by_cases hxa : x = a
    · exact hxa ▸ List.mem_cons_self
    · have ha := hs a List.mem_cons_self
      have hn2 := List.nodup_cons.1 hn
      refine List.mem_cons_of_mem _ (full_ofT vis (U.erase a) hn2.2 (fun y hy => ?_) ?_ x ?_)
      · exact (List.mem_erase_of_ne (fun e => hn2.1 (by rw [← e]; exact hy))).2 (hs y (List.mem_cons_of_mem _ hy))
      · rw [List.length_erase_of_mem ha]; simp at hl; omega
      · exact (List.mem_erase_of_ne hxa).2 hx
theorem usedT_take (L : List Twig) (k : Nat) (h : k < L.length) : usedT (L.take (k+1)) = usedT (L.take k) + (if L[k].used_ = true then 1 else 0) := by
  unfold usedT
  rw [List.take_succ_eq_append_getElem h, List.countP_append]
  cases h9 : L[k].used_ <;> simp [h9]
theorem usedT_le (L : List Twig) (k : Nat) : usedT (L.take k) ≤ k := Nat.le_trans List.countP_le_length (by simp; omega)
theorem usedT_le16 {L : List Twig} (hL : L.length = 16) : usedT L ≤ 16 := by have := usedT_le L 16; rwa [List.take_of_length_le (by omega)] at this
/-- The places whose twigs are used. -/
def usedP (L : List Twig) (n : Nat) : List Int := ((List.range n).filter (fun k : Nat => (tw L k).used_)).map (fun k : Nat => (k : Int))
theorem usedP_len (L : List Twig) : ∀ (n : Nat), n ≤ L.length → (usedP L n).length = usedT (L.take n)
  | 0, _ => by simp [usedP, usedT]
  | n+1, h => by
    have ih := usedP_len L n (by omega)
    unfold usedP at *
    rw [List.length_map] at *
    rw [List.range_succ, List.filter_append, List.length_append, ih, usedT_take L n (by omega)]
    have e : tw L (n : Int) = L[n] := tw_eq L n (by rw [Int.toNat_natCast]; omega)
    cases h9 : L[n].used_ <;> simp [e, h9]
theorem usedP_mem (L : List Twig) (q : Int) (h : inB q 0 15 = true) (hu : (tw L q).used_ = true) : q ∈ usedP L 16 := by
  have := inB_nn h
  unfold usedP
  rw [List.mem_map]
  exact ⟨q.toNat, by rw [List.mem_filter, List.mem_range, show ((q.toNat : Nat) : Int) = q by omega]; exact ⟨by omega, hu⟩, by omega⟩
theorem part_all {L : List Twig} (hL : L.length = 16) {p : Int} {xs : List Int} (h : Part L p xs) (hn : xs.Nodup) (hc : xs.length = usedT L) (q : Int) (hq : inB q 0 15 = true) (hu : (tw L q).used_ = true) : q ∈ xs := by
  refine full_ofT xs (usedP L 16) hn (fun r hr => usedP_mem L r (h.in r hr).1 (h.in r hr).2) ?_ q (usedP_mem L q hq hu)
  rw [usedP_len L 16 (by omega), List.take_of_length_le (by omega), hc]; exact Nat.le_refl _
theorem part_len {L : List Twig} (hL : L.length = 16) {p : Int} {xs : List Int} (h : Part L p xs) (hn : xs.Nodup) : xs.length ≤ usedT L := by
  have z : xs.length ≤ (usedP L 16).length := by
    have : ∀ (vis U : List Int), vis.Nodup → (∀ x, x ∈ vis → x ∈ U) → vis.length ≤ U.length := by
      intro vis
      induction vis with
      | nil => intro U _ _; simp
      | cons a vis ih =>
        intro U hn hs
        have hn2 := List.nodup_cons.1 hn
        have ha := hs a (by simp)
        have z := ih (U.erase a) hn2.2 (fun y hy => (List.mem_erase_of_ne (fun e => hn2.1 (by rw [← e]; exact hy))).2 (hs y (by simp [hy])))
        rw [List.length_erase_of_mem ha] at z
        have : 0 < U.length := List.length_pos_of_mem ha
        simp; omega
    exact this xs _ hn (fun r hr => usedP_mem L r (h.in r hr).1 (h.in r hr).2)
  rwa [usedP_len L 16 (by omega), List.take_of_length_le (by omega)] at z
theorem mem_place {L : List Twig} (hL : L.length = 16) {x : Twig} (hx : x ∈ L) : ∃ q : Int, inB q 0 15 = true ∧ tw L q = x := by
  obtain ⟨k, hk, rfl⟩ := List.mem_iff_getElem.1 hx
  refine ⟨(k : Int), by simp [inB]; omega, ?_⟩
  exact tw_eq L (k : Int) (by rw [Int.toNat_natCast]; exact hk)
theorem part_link {L : List Twig} {p : Int} {xs : List Int} (h : Part L p xs) : linkB p = true := by
  rcases h.place with ⟨rfl, _⟩ | ⟨_, _, h, _⟩
  · rfl
  · unfold linkB; rw [h]; simp
theorem part_links {L : List Twig} {p : Int} {xs : List Int} (h : Part L p xs) : ∀ q ∈ xs, linkB (tw L q).left_ = true ∧ linkB (tw L q).right_ = true := by
  induction h with
  | none => simp
  | twig p xs ys h hu hl hr ih1 ih2 =>
    intro q hq
    rw [List.mem_append, List.mem_cons] at hq
    rcases hq with hq | rfl | hq
    · exact ih1 q hq
    · exact ⟨part_link hl, part_link hr⟩
    · exact ih2 q hq
theorem treeOk_iff (t : TreeD) (hL : t.twigs_.length = 16) : treeOk t = true ↔ t.twigs_.all twigOk = true ∧ ∃ xs, Part t.twigs_ t.root_ xs ∧ SortP t.twigs_ xs ∧ xs.length = usedT t.twigs_ := by
  unfold treeOk listT
  obtain ⟨k, hk⟩ : ∃ k, keysT (usedT t.twigs_) t.twigs_ t.root_ [] = k := ⟨_, rfl⟩
  rw [hk]
  obtain ⟨r, o⟩ := k
  simp only [Bool.and_eq_true, decide_eq_true_eq]
  constructor
  · rintro ⟨⟨⟨h1, h2⟩, h3⟩, h4⟩
    obtain ⟨xs, e, hp⟩ := keysT_part t.twigs_ _ t.twigs_ t.root_ [] r (fun _ _ => rfl) (by rw [hk, h3])
    rw [List.nil_append] at e
    rw [e] at h2 h4
    exact ⟨h1, xs, hp, (ascT_sort _ _).1 h2, h4⟩
  · rintro ⟨h1, xs, hp, hs, hc⟩
    have z := part_keysT hp (usedT t.twigs_) t.twigs_ [] hs.nodup (by have := usedT_le16 hL; simp; omega) (fun _ _ => rfl) (by omega)
    rw [hk, List.nil_append, Prod.mk.injEq] at z
    obtain ⟨rfl, rfl⟩ := z
    exact ⟨⟨⟨h1, (ascT_sort _ _).2 hs⟩, rfl⟩, hc⟩
theorem treeOkI_iff (t : TreeD) (hL : t.twigs_.length = 16) : treeOkI t = true ↔ t.twigs_.all twigOk = true ∧ ∃ xs, Part t.twigs_ t.root_ xs ∧ SortP t.twigs_ xs ∧ xs.length = usedT t.twigs_ := by
  unfold treeOkI
  obtain ⟨k, hk⟩ : ∃ k, cntT t.twigs_ (usedT t.twigs_) t.root_ (-1000000001) 1000000001 = k := ⟨_, rfl⟩
  rw [hk]
  obtain ⟨r, o⟩ := k
  simp only [Bool.and_eq_true, decide_eq_true_eq]
  constructor
  · rintro ⟨⟨⟨h1, h2⟩, h3⟩, h4⟩
    have hA : ∀ x ∈ t.twigs_, x.used_ = true → linkB x.left_ = true ∧ linkB x.right_ = true := fun x hx hu => by
      have z := List.all_eq_true.1 h2 x hx
      unfold twigOkI at z; rw [hu] at z; simpa using z
    obtain ⟨xs, hp, hn, hs, hb⟩ := cnt_part t.twigs_ hL hA _ t.root_ _ _ r h1 (by rw [hk, h3])
    rw [hn] at h4
    refine ⟨List.all_eq_true.2 fun x hx => ?_, xs, hp, hs, h4⟩
    obtain ⟨q, hq, rfl⟩ := mem_place hL hx
    have z := List.all_eq_true.1 h2 _ hx
    unfold twigOkI at z
    unfold twigOk
    cases hu : (tw t.twigs_ q).used_ with
    | true =>
      have := hb q (part_all hL hp hs.nodup h4 q hq hu)
      simp [isVal, inB]; omega
    | false => rw [hu] at z; exact z
  · rintro ⟨h1, xs, hp, hs, hc⟩
    have hv : ∀ q ∈ xs, (-1000000001 : Int) < (tw t.twigs_ q).key_ ∧ (tw t.twigs_ q).key_ < 1000000001 := fun q hq => by
      have hi := hp.in q hq
      have z := List.all_eq_true.1 h1 (tw t.twigs_ q) (by rw [tw_eq _ _ (pl_lt hL hi.1)]; exact List.getElem_mem _)
      unfold twigOk at z
      rw [hi.2] at z
      simp [isVal, inB] at z
      omega
    have z := part_cnt hp (usedT t.twigs_) _ _ hs hv (by omega)
    rw [hk, Prod.mk.injEq] at z
    obtain ⟨rfl, rfl⟩ := z
    refine ⟨⟨⟨part_link hp, List.all_eq_true.2 fun x hx => ?_⟩, rfl⟩, hc⟩
    have y := List.all_eq_true.1 h1 x hx
    obtain ⟨q, hq, rfl⟩ := mem_place hL hx
    unfold twigOk at y
    unfold twigOkI
    cases hu : (tw t.twigs_ q).used_ with
    | true =>
      have := part_links hp q (part_all hL hp hs.nodup hc q hq hu)
      simp [this]
    | false => rw [hu] at y; exact y
theorem treeOk_eq (t : TreeD) (hL : t.twigs_.length = 16) : treeOkI t = treeOk t := by
  rw [Bool.eq_iff_iff, treeOkI_iff t hL, treeOk_iff t hL]
end Go.Proofs.Ytdgmbcmgjadoiaa
