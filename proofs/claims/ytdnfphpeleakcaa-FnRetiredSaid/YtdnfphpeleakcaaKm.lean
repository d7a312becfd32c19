/- A map of retired blocks by their places: what it holds, as a test on places. -/
import Derived.Test.YtdnfphpeleakcaaBase2
import Derived.Test.YtdnfphpeleakcaaIter
import Derived.Maps.OwnSet
import Derived.Test.YtdnfphpeleakcaaF3d
import Derived.Test.YtdnfphpeleakcaaY3c
/- The keys of a map of ints, sorted. -/
namespace Go.Proofs.Ytdnfphpeleakcaa
set_option maxRecDepth 100000
open Go.RowKit Go.Proofs Go.Own Go.Maps Go.Sort Go.Shelf
set_option linter.unusedVariables false
set_option linter.unusedSimpArgs false

theorem sortsA (m : Nat) : AnyZI.SortsIn Try.prog Try.sortedA_ren Fence.wide m :=
  ⟨fun blk off cap ss W hH hblk hsz => callsIn_wide.2 (AnyM.slices_Sort_int Try.sortA blk off cap ss W hH hblk hsz),
   fun p cap W => callsIn_wide.2 (AnyM.slices_Sort_int_none Try.sortA p cap W)⟩
theorem maps_Keys (b : Nat) (w : World) :
    Calls Try.prog 85 #[.map (some b)] w fun e w' => e = .returned (.func (.func 103) #[] #[.pointer (some ⟨w.heap.size, 0, none⟩)]) ∧ w' = w.alloc (.cells #[.map (some b)] 72) :=
  (callsIn_wide (n := 5)).1 (AnyZI.keys_in Try.keysA Fence.wide 5 trivial rfl (some b) w)
theorem slices_Sorted {H : Type} (b nn : Nat) (D0 : DataW H) (R : Value → Option (DataW H × List MemPlace)) (w : World) (hown : w.ownsMap Try.prog 3 R b nn D0) (hmax : Maps.size D0 ≤ maxLen) (hbytes : Maps.size D0 * 8 ≤ 140737488355328) :
    Calls Try.prog 84 #[.func (.func 103) #[] #[.pointer (some ⟨w.heap.size, 0, none⟩)]] (w.alloc (.cells #[.map (some b)] 72)) fun e w' => ∃ (v : Value) (ss : List Int), e = .returned v ∧ ss.Perm (intKeys D0) ∧
      w'.ownsRow w.heap.size 3 1 v ss.length ((ss.mergeSort (fun x y => decide (x ≤ y))).map encZ) ∧ Below w.heap.size w w' := by
  have hbl := hown.lt
  have hseq : SeqGives Fence.wide 2 Try.prog 103 #[.pointer (some ⟨w.heap.size, 0, none⟩)] encZ (fun ss => ss.Perm (intKeys D0)) (Maps.size D0) (w.alloc (.cells #[.map (some b)] 72)) :=
    AnyZI.keys_gives (ρ := Try.keysA_ren) { Try.keysA with } Fence.wide _ trivial rfl (by omega) w.heap.size b nn D0 _ (by simp) (by simp) (by
      obtain ⟨es, clock, hb, Ft, hs, hD⟩ := hown
      exact ⟨es, clock, (Below.heap_alloc _ _ b hbl).trans hb, Ft, hs, hD⟩)
  have cS := AnyZI.sorted_in Try.sortedA Fence.wide 5 trivial trivial trivial trivial rfl (by omega) (sortsA _) (enters_of Try.func102 (by kernel_rfl) rfl) 103 #[.pointer (some ⟨w.heap.size, 0, none⟩)] trivial (enters_of Try.func103 (by kernel_rfl) rfl) _ _ hmax hbytes _ hseq
  refine Calls.mono ((callsIn_wide (n := 5)).1 cS) ?_
  rintro e w' ⟨v, ss, rfl, hS, hrow, _, hb⟩
  exact ⟨v, ss, rfl, hS, ownsRow_base_a hrow (by simp), ((Below.refl _ w).alloc (Nat.le_refl _) _).trans (hb.mono (by simp))⟩
end Go.Proofs.Ytdnfphpeleakcaa
namespace Go.Proofs.Ytdnfphpeleakcaa
open Go.RowKit Go.Proofs Go.Own Go.Maps
set_option linter.unusedVariables false
set_option linter.unusedSimpArgs false

abbrev DG := DataW Unit
def gD (g : Gone) : DG := .agg [.lit (.int .i64 g.handle_), .lit (.int .i64 g.pass_)]
def gL : List Value → Option (DG × List MemPlace)
  | [.int .i64 h, .int .i64 p] => some (gD ⟨h, p⟩, [])
  | _ => none
def gR : Value → Option (DG × List MemPlace)
  | .agg cs => gL cs.toList
  | _ => none
theorem gR_val (g : Gone) : gR g.val = some (gD g, []) := rfl
theorem gD_inj {g h : Gone} (e : gD g = gD h) : g = h := by
  cases g; cases h
  simp only [gD, DataW.agg.injEq, List.cons.injEq, DataW.lit.injEq, Lit.int.injEq, and_true, true_and] at e
  simp [e]
theorem gR_inv {v : Value} {g : Gone} {ps : List MemPlace} (h : gR v = some (gD g, ps)) : v = g.val := by
  unfold gR at h
  split at h
  · rename_i cs
    obtain ⟨l⟩ := cs
    unfold gL at h
    split at h
    · rename_i e
      simp only [Option.some.injEq, Prod.mk.injEq] at h
      have := gD_inj h.1
      subst this
      simp only at e
      subst e
      rfl
    · cases h
  · cases h
def kI (i : Nat) : Lit := .int .i64 (i : Int)
theorem kI_key (i : Nat) : WideAt.IsKeyLit (kI i) := trivial
theorem kI_ne {i j : Nat} (h : i ≠ j) : kI i ≠ kI j := by simp only [kI, ne_eq, Lit.int.injEq, true_and]; omega

/-- The map has just the places below m that S lets through, each with its retired block. -/
structure Kept (D : DG) (gs : List Gone) (S : Nat → Bool) (m : Nat) : Prop where
  is : IsMap D
  has : ∀ i : Nat, Maps.has D (kI i) = (decide (i < m) && S i)
  at_ : ∀ i, (h : i < gs.length) → i < m → S i = true → ∀ z, D.atKey (kI i) z = gD gs[i]
  size : Maps.size D = (List.range m).countP S
theorem Kept.nil (gs : List Gone) (S : Nat → Bool) : Kept (.map []) gs S 0 := ⟨isMap_empty, fun i => by simp [Maps.has], fun i _ h => by omega, rfl⟩
theorem Kept.put {D : DG} {gs : List Gone} {k : Nat} (h : Kept D gs (fun _ => true) k) (ht : Tidy D) (hk : k < gs.length) : Kept (D.put (kI k) (gD gs[k])) gs (fun _ => true) (k + 1) := by
  refine ⟨h.is.put _ _, fun i => ?_, fun i hi hm _ z => ?_, ?_⟩
  · by_cases e : i = k
    · subst e; rw [has_put_same h.is (kI_key _)]; simp
    · rw [has_put_other (kI_ne e), h.has]; simp; omega
  · by_cases e : i = k
    · subst e; rw [atKey_put_same h.is (kI_key _)]
    · rw [atKey_put_other (kI_ne e)]; exact h.at_ i hi (by omega) rfl z
  · rw [size_put ht, h.has, h.size, List.range_succ, List.countP_append]; simp
theorem countP_del : ∀ (m : Nat) (S : Nat → Bool) (i : Nat), (List.range m).countP (fun j => j != i && S j) + (if (decide (i < m) && S i) = true then 1 else 0) = (List.range m).countP S
  | 0, S, i => by simp
  | m + 1, S, i => by
    have ih := countP_del m S i
    rw [List.range_succ, List.countP_append, List.countP_append, List.countP_singleton, List.countP_singleton]
    by_cases e : m = i
    · subst e
      simp only [Nat.lt_irrefl, decide_false, Bool.false_and, Bool.false_eq_true, if_false, Nat.add_zero] at ih
      simp [ih]
    · have hlt : decide (i < m + 1) = decide (i < m) := by rw [Bool.eq_iff_iff]; simp; omega
      have hm : (m != i) = true := by simpa using e
      rw [hlt, hm, Bool.true_and]
      omega
theorem Kept.del {D : DG} {gs : List Gone} {S : Nat → Bool} {m : Nat} (h : Kept D gs S m) (ht : Tidy D) (i : Nat) : Kept (D.del (kI i)) gs (fun j => j != i && S j) m := by
  refine ⟨h.is.del _, fun j => ?_, fun j hj hm hs z => ?_, ?_⟩
  · by_cases e : j = i
    · subst e; rw [has_del_same]; show false = (decide (j < m) && (j != j && S j)); rw [bne_self_eq_false]; simp
    · rw [has_del_other (kI_ne e), h.has]; show (decide (j < m) && S j) = (decide (j < m) && (j != i && S j)); rw [show (j != i) = true by simpa using e, Bool.true_and]
  · have hs' : (j != i) = true ∧ S j = true := by simpa using hs
    have e : j ≠ i := by simpa using hs'.1
    rw [atKey_del_other (kI_ne e)]; exact h.at_ j hj hm hs'.2 z
  · have h1 := size_del (k := kI i) ht
    rw [h.has, h.size] at h1
    have h2 := countP_del m S i
    omega
theorem Kept.congr {D : DG} {gs : List Gone} {S S' : Nat → Bool} {m : Nat} (h : Kept D gs S m) (e : ∀ i, i < m → S i = S' i) : Kept D gs S' m := by
  refine ⟨h.is, fun i => ?_, fun i hi hm hs z => h.at_ i hi hm (by rw [e i hm]; exact hs) z, ?_⟩
  · rw [h.has]
    by_cases hi : i < m
    · rw [e i hi]
    · simp [hi]
  · rw [h.size]
    refine List.countP_congr fun i hi => ?_
    rw [e i (List.mem_range.1 hi)]

theorem perm_of_sub {α : Type} [DecidableEq α] : ∀ (T L : List α), T.Nodup → (∀ x ∈ T, x ∈ L) → L.length ≤ T.length → L.Perm T
  | [], L, _, _, hl => by rw [List.eq_nil_of_length_eq_zero (Nat.le_zero.1 hl)]
  | t :: T, L, hn, hs, hl => by
    have ht : t ∈ L := hs t (List.mem_cons_self ..)
    have hn' := List.nodup_cons.1 hn
    have h1 := List.perm_cons_erase ht
    refine h1.trans (List.Perm.cons t (perm_of_sub T (L.erase t) hn'.2 (fun y hy => (List.mem_erase_of_ne (by rintro rfl; exact hn'.1 hy)).2 (hs y (List.mem_cons_of_mem _ hy))) ?_))
    rw [List.length_erase_of_mem ht]; simp only [List.length_cons] at hl; omega
theorem sorted_perm_eq : ∀ (L T : List Int), L.Pairwise (· ≤ ·) → T.Pairwise (· ≤ ·) → L.Perm T → L = T
  | [], T, _, _, h => (List.nil_perm.1 h).symm
  | x :: L, [], _, _, h => by have := h.length_eq; simp at this
  | x :: L, y :: T, hl, ht, h => by
    have hx : x ∈ y :: T := h.mem_iff.1 (List.mem_cons_self ..)
    have hy : y ∈ x :: L := h.mem_iff.2 (List.mem_cons_self ..)
    have e : x = y := by
      have h1 : y ≤ x := by
        rcases List.mem_cons.1 hx with rfl | hx
        · exact Int.le_refl _
        · exact (List.pairwise_cons.1 ht).1 x hx
      have h2 : x ≤ y := by
        rcases List.mem_cons.1 hy with rfl | hy
        · exact Int.le_refl _
        · exact (List.pairwise_cons.1 hl).1 y hy
      omega
    subst e
    rw [sorted_perm_eq L T (List.pairwise_cons.1 hl).2 (List.pairwise_cons.1 ht).2 (List.Perm.cons_inv h)]
/-- The places that are kept, in order. -/
def keptAt (S : Nat → Bool) (m : Nat) : List Nat := (List.range m).filter S
def keptGs (gs : List Gone) (S : Nat → Bool) (m : Nat) : List Gone := (keptAt S m).map fun i => gs.getD i zeroG
theorem has_mem {es : List (Lit × DG)} {i : Nat} (h : Maps.has (.map es) (kI i) = true) : (i : Int) ∈ intKeys (.map es : DG) := by
  rw [has_eq, List.any_eq_true] at h
  obtain ⟨p, hp, hk⟩ := h
  have hpk : p.1 = kI i := by
    rcases Classical.em (p.1 = kI i) with e | e
    · exact e
    · rw [sameKey_ne e] at hk; cases hk
  simp only [intKeys, List.mem_map]
  exact ⟨p, hp, by rw [hpk]; rfl⟩
theorem Kept.keys {D : DG} {gs : List Gone} {S : Nat → Bool} {m : Nat} (h : Kept D gs S m) : (intKeys D).Perm ((keptAt S m).map Int.ofNat) := by
  obtain ⟨es, rfl⟩ := h.is
  refine perm_of_sub _ _ ?_ ?_ ?_
  · refine List.Pairwise.map _ (fun a b hab e => hab (Int.ofNat.inj e)) (List.Pairwise.filter _ List.nodup_range)
  · intro x hx
    simp only [keptAt, List.mem_map, List.mem_filter, List.mem_range] at hx
    obtain ⟨i, ⟨h1, h2⟩, rfl⟩ := hx
    exact has_mem (by rw [h.has]; simp [h1, h2])
  · have hs := h.size
    rw [size_eq] at hs
    simp only [intKeys, List.length_map, keptAt, ← List.countP_eq_length_filter]
    omega
theorem Kept.sorted {D : DG} {gs : List Gone} {S : Nat → Bool} {m : Nat} (h : Kept D gs S m) {ss : List Int} (hp : ss.Perm (intKeys D)) : ss.mergeSort (fun x y => decide (x ≤ y)) = (keptAt S m).map Int.ofNat := by
  refine sorted_perm_eq _ _ ?_ ?_ ((List.mergeSort_perm ss _).trans (hp.trans h.keys))
  · have := List.pairwise_mergeSort (le := fun x y : Int => decide (x ≤ y)) (by intro a b c h1 h2; simp at *; omega) (by intro a b; simp; omega) ss
    exact this.imp (by intro a b h; simpa using h)
  · refine List.Pairwise.map _ (fun a b (hab : a < b) => ?_) (List.Pairwise.filter _ List.pairwise_lt_range)
    show (a : Int) ≤ (b : Int)
    omega
end Go.Proofs.Ytdnfphpeleakcaa
