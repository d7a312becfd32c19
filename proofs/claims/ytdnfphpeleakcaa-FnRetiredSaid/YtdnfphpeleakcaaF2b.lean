/- Chapter 2: the two tests of an arena are one. -/
import Derived.Test.YtdnfphpeleakcaaI2c
namespace Go.Proofs.Ytdnfphpeleakcaa
set_option maxRecDepth 100000
open Go.RowKit Go.Proofs Go.Own
set_option linter.unusedVariables false
set_option linter.unusedSimpArgs false

theorem len_le_of_subset {α : Type} [DecidableEq α] : ∀ (l1 l2 : List α), l1.Nodup → (∀ x ∈ l1, x ∈ l2) → l1.length ≤ l2.length
  | [], _, _, _ => Nat.zero_le _
  | x :: t, l2, hn, hs => by
    have hx : x ∈ l2 := hs x (List.mem_cons_self ..)
    have hn' := List.nodup_cons.1 hn
    have := len_le_of_subset t (l2.erase x) hn'.2 fun y hy => (List.mem_erase_of_ne (by rintro rfl; exact hn'.1 hy)).2 (hs y (List.mem_cons_of_mem _ hy))
    rw [List.length_erase_of_mem hx] at this
    have hp : 0 < l2.length := List.length_pos_of_mem hx
    rw [List.length_cons]; omega
theorem subset_of_len {α : Type} [DecidableEq α] {l1 l2 : List α} (hn : l1.Nodup) (hs : ∀ x ∈ l1, x ∈ l2) (hl : l2.length ≤ l1.length) : ∀ y ∈ l2, y ∈ l1 := by
  intro y hy
  by_cases h : y ∈ l1
  · exact h
  · exfalso
    have := len_le_of_subset l1 (l2.erase y) hn fun x hx => (List.mem_erase_of_ne (by rintro rfl; exact h hx)).2 (hs x hx)
    rw [List.length_erase_of_mem hy] at this
    have hp : 0 < l2.length := List.length_pos_of_mem hy
    omega

def opens (bs : List Block) : List Int := ((List.range bs.length).filter fun p => openB (bs.getD p zeroB)).map Int.ofNat
theorem mem_opens {bs : List Block} {x : Int} : x ∈ opens bs ↔ ∃ p : Nat, x = p ∧ p < bs.length ∧ openB (bs.getD p zeroB) = true := by
  simp only [opens, List.mem_map, List.mem_filter, List.mem_range]
  constructor
  · rintro ⟨p, ⟨h1, h2⟩, rfl⟩; exact ⟨p, rfl, h1, h2⟩
  · rintro ⟨p, rfl, h1, h2⟩; exact ⟨p, ⟨h1, h2⟩, rfl⟩
theorem opens_nodup (bs : List Block) : (opens bs).Nodup := by
  refine List.Pairwise.map _ (fun a b h => ?_) (List.Pairwise.filter _ List.nodup_range)
  intro e; exact h (Int.ofNat.inj e)
theorem countP_range (p : Block → Bool) : ∀ (bs : List Block), ((List.range bs.length).filter fun i => p (bs.getD i zeroB)).length = bs.countP p
  | [] => rfl
  | b :: bs => by
    have ih := countP_range p bs
    rw [List.length_cons, List.range_succ_eq_map, List.filter_cons, List.countP_cons, List.getD_cons_zero, List.filter_map, ← ih]
    split <;> simp [Function.comp_def, List.getD_cons_succ]
theorem opens_len (bs : List Block) : (opens bs).length = bs.countP openB := by
  rw [opens, List.length_map]; exact countP_range openB bs

theorem nodup_of_take {ls : List Int} (h : ∀ k, (hk : k < ls.length) → ls[k] ∉ ls.take k) : ls.Nodup := by
  rw [List.Nodup, List.pairwise_iff_getElem]
  intro i j hi hj hij e
  refine h j hj ?_
  rw [← e]
  exact List.mem_take_iff_getElem.2 ⟨i, by omega, rfl⟩
theorem hasFrom_false {xs : List Int} {x : Int} : hasFrom xs x 0 = false ↔ x ∉ xs := by simp [hasFrom]
theorem hasFrom_true {xs : List Int} {x : Int} : hasFrom xs x 0 = true ↔ x ∈ xs := by simp [hasFrom]

theorem placesOk_iff {ls : List Int} : placesOk ls = true ↔ (∀ x ∈ ls, 0 ≤ x ∧ x ≤ 23) ∧ ∀ k, (hk : k < ls.length) → ls[k] ∉ ls.take k := by
  rw [placesOk, List.all_eq_true]
  constructor
  · intro h
    refine ⟨fun x hx => ?_, fun k hk => ?_⟩
    · obtain ⟨k, hk, rfl⟩ := List.getElem_of_mem hx
      have := h k (List.mem_range.2 hk)
      rw [plOk_at hk _ rfl] at this
      simp [inB] at this
      exact this.1
    · have := h k (List.mem_range.2 hk)
      rw [plOk_at hk _ rfl, Bool.and_eq_true] at this
      exact hasFrom_false.1 (by simpa using this.2)
  · rintro ⟨h1, h2⟩ k hk
    have hk := List.mem_range.1 hk
    rw [plOk_at hk _ rfl]
    have := h1 _ (List.getElem_mem hk)
    simp [inB, this, hasFrom_false.2 (h2 k hk)]
theorem places_iff {bs : List Block} {ls : List Int} : (List.range ls.length).all (placeIn ⟨bs, ls⟩) = true ↔ (∀ x ∈ ls, ∃ p : Nat, x = p ∧ p < bs.length ∧ (bs.getD p zeroB).free_ = true ∧ (bs.getD p zeroB).gen_ ≠ 5) ∧ ∀ k, (hk : k < ls.length) → ls[k] ∉ ls.take k := by
  rw [List.all_eq_true]
  constructor
  · intro h
    refine ⟨fun x hx => ?_, fun k hk => ?_⟩
    · obtain ⟨k, hk, rfl⟩ := List.getElem_of_mem hx
      have := h k (List.mem_range.2 hk)
      rw [placeIn_at hk _ rfl] at this
      simp only [Bool.and_eq_true, inB, decide_eq_true_eq, Bool.not_eq_true', decide_eq_false_iff_not] at this
      exact ⟨ls[k].toNat, by omega, by omega, this.1.1.2, this.1.2⟩
    · have := h k (List.mem_range.2 hk)
      rw [placeIn_at hk _ rfl, Bool.and_eq_true] at this
      exact hasFrom_false.1 (by simpa using this.2)
  · rintro ⟨h1, h2⟩ k hk
    have hk := List.mem_range.1 hk
    rw [placeIn_at hk _ rfl]
    obtain ⟨p, hp, hpn, hf, hg⟩ := h1 _ (List.getElem_mem hk)
    rw [hasFrom_false.2 (h2 k hk), hp, Int.toNat_natCast, hf]
    have h5 : decide ((bs.getD p zeroB).gen_ = 5) = false := by simpa using hg
    rw [h5]
    simp [inB]
    omega

theorem openB_of {bs : List Block} (hall : bs.all blockOk = true) {p : Nat} (hp : p < bs.length) : openB (bs.getD p zeroB) = true ↔ (bs.getD p zeroB).free_ = true ∧ (bs.getD p zeroB).gen_ ≠ 5 := by
  have hb : blockOk (bs.getD p zeroB) = true := by
    rw [List.getD, List.getElem?_eq_getElem hp]
    exact List.all_eq_true.1 hall _ (List.getElem_mem hp)
  have hg : (bs.getD p zeroB).gen_ ≤ 5 := by
    simp only [blockOk, Bool.and_eq_true, inB, decide_eq_true_eq] at hb
    exact hb.1.1.2
  simp only [openB, Bool.and_eq_true, decide_eq_true_eq]
  constructor
  · rintro ⟨h1, h2⟩; exact ⟨h1, by omega⟩
  · rintro ⟨h1, h2⟩; exact ⟨h1, by omega⟩

theorem sets_eq_iff {bs : List Block} {ls : List Int} (hp : placesOk ls = true) : (setF ls == takF bs bs.length) = true ↔ ∀ p : Nat, p < 24 → ((p : Int) ∈ ls ↔ p < bs.length ∧ openB (bs.getD p zeroB) = true) := by
  rw [beq_iff_eq, setF_yes hp]
  constructor
  · intro h p hp24
    have h1 := markF_get ls ls.length p hp24
    have h2 := takF_get bs bs.length p hp24
    rw [h, h2, List.take_length] at h1
    have h3 := Option.some.inj h1
    rw [← hasFrom_true, ← h3]
    simp
  · intro h
    apply List.ext_getElem?; intro i
    by_cases hi : i < 24
    · rw [markF_get _ _ _ hi, takF_get _ _ _ hi, List.take_length]
      congr 1
      rw [Bool.eq_iff_iff, hasFrom_true, h i hi]
      simp
    · rw [List.getElem?_eq_none (by rw [markF_len]; omega), List.getElem?_eq_none (by rw [takF_len]; omega)]

theorem progOk_eq (bs : List Block) (ls : List Int) : progOk bs ls = arenaOk ⟨bs, ls⟩ := by
  unfold progOk arenaOk
  by_cases hn : inB bs.length 1 24 = true
  case neg => simp [Bool.eq_false_iff.2 hn]
  by_cases hall : bs.all blockOk = true
  case neg => simp [Bool.eq_false_iff.2 hall]
  have hlen : bs.length ≤ 24 := by simp [inB] at hn; omega
  rw [hn, hall]
  simp only [Bool.true_and]
  rw [Bool.eq_iff_iff, Bool.and_eq_true, Bool.and_eq_true, places_iff, decide_eq_true_eq]
  constructor
  · rintro ⟨hp, hs⟩
    rw [sets_eq_iff hp] at hs
    obtain ⟨h1, h2⟩ := placesOk_iff.1 hp
    have hin : ∀ x ∈ ls, ∃ p : Nat, x = p ∧ p < bs.length ∧ openB (bs.getD p zeroB) = true := fun x hx => by
      obtain ⟨a, b⟩ := h1 x hx
      have := (hs x.toNat (by omega)).1 (by rw [Int.toNat_of_nonneg a]; exact hx)
      exact ⟨x.toNat, by omega, this⟩
    refine ⟨⟨fun x hx => ?_, h2⟩, ?_⟩
    · obtain ⟨p, e, hpn, ho⟩ := hin x hx
      exact ⟨p, e, hpn, (openB_of hall hpn).1 ho⟩
    · rw [← opens_len]
      refine Nat.le_antisymm (len_le_of_subset _ _ (nodup_of_take h2) fun x hx => mem_opens.2 (hin x hx)) (len_le_of_subset _ _ (opens_nodup bs) fun x hx => ?_)
      obtain ⟨p, rfl, hpn, ho⟩ := mem_opens.1 hx
      exact (hs p (by omega)).2 ⟨hpn, ho⟩
  · rintro ⟨⟨h1, h2⟩, hc⟩
    have hin : ∀ x ∈ ls, x ∈ opens bs := fun x hx => by
      obtain ⟨p, e, hpn, ho⟩ := h1 x hx
      exact mem_opens.2 ⟨p, e, hpn, (openB_of hall hpn).2 ho⟩
    have hback := subset_of_len (nodup_of_take h2) hin (by rw [opens_len]; omega)
    have hp : placesOk ls = true := placesOk_iff.2 ⟨fun x hx => by
      obtain ⟨p, e, hpn, _⟩ := h1 x hx; omega, h2⟩
    refine ⟨hp, (sets_eq_iff hp).2 fun p hp24 => ⟨fun hx => ?_, fun ⟨a, b⟩ => hback _ (mem_opens.2 ⟨p, rfl, a, b⟩)⟩⟩
    obtain ⟨q, e, hq, ho⟩ := mem_opens.1 (hin _ hx)
    have : p = q := by omega
    subst this
    exact ⟨hq, ho⟩

theorem impl_ArenaOk1 (v0 : Value) (bs : List Block) (v1 : Value) (ls : List Int) (w : World) (h0 : Blocks w v0 bs) (h1 : Ints w v1 ls) :
    Calls Try.prog 39 #[.agg #[v0, v1]] w fun e w' => e = .returned (.bool (arenaOk ⟨bs, ls⟩)) ∧ Below w.heap.size w w' := by
  rw [← progOk_eq]; exact impl_ArenaOk0 v0 bs v1 ls w h0 h1
theorem impl_ArenaOk (v0 : Value) (bs : List Block) (v1 : Value) (ls : List Int) (w : World) (h0 : Blocks w v0 bs) (_hx0 : bs.length ≤ 1048576) (h1 : Ints w v1 ls) (_hx1 : ls.length ≤ 1048576) :
    Calls Try.prog 39 #[.agg #[v0, v1]] w fun e w' => e = .returned (.bool (arenaOk ⟨bs, ls⟩)) ∧ Below w.heap.size w w' := impl_ArenaOk1 v0 bs v1 ls w h0 h1
end Go.Proofs.Ytdnfphpeleakcaa
