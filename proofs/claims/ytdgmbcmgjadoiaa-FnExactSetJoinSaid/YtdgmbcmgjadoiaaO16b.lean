/- Chapter 16's program: the library's insert, delete, search, index and sort at lists of numbers of the call's own. -/
import Derived.Test.YtdgmbcmgjadoiaaO16
import Derived.Test.YtdgmbcmgjadoiaaShelf
namespace Go.Own
open Go.RowKit
theorem owns_ext {w : World} {base e g n cap : Nat} {cs : List Value} (h : w.ownsRow base e 1 (.slice (some ⟨g, 0, none⟩) n cap) n cs) (hn : n < cap) : ∃ z, w.ownsRow base e 1 (.slice (some ⟨g, 0, none⟩) (n+1) cap) (n+1) (cs ++ [z]) := by
  obtain ⟨hl, h⟩ := h
  rcases h with ⟨h1, h2⟩ | ⟨g', cap', cur, hv, hb, hg, hnc, hm, hs, ht⟩
  · cases h1
  · obtain ⟨rfl, rfl⟩ : g = g' ∧ cap = cap' := by simpa using hv
    have hlt : n < cur.toList.length := by rw [Array.length_toList]; omega
    refine ⟨cur.toList[n], by rw [List.length_append, hl]; simp, .inr ⟨g, cap, cur, rfl, hb, hg, by omega, hm, hs, ?_⟩⟩
    rw [Nat.mul_one] at ht ⊢
    rw [List.take_succ_eq_append_getElem hlt, ht]
theorem owns_cells {base e g m cap : Nat} : ∀ (vs : List Value) (o : Nat) (w : World) (L : List Value), w.ownsRow base e 1 (.slice (some ⟨g, 0, none⟩) m cap) m L → o + vs.length ≤ m → (w.setCells g o vs).ownsRow base e 1 (.slice (some ⟨g, 0, none⟩) m cap) m (L.take o ++ (vs ++ L.drop (o + vs.length)))
  | [], o, w, L, h, _ => by simpa [World.setCells] using h
  | v :: r, o, w, L, h, ho => by
    have hL := h.1
    simp only [List.length_cons] at ho
    have h1 := owns_cells r (o+1) (w.setCell ⟨g, o, none⟩ v) (L.set o v) (owns_put h o v) (by omega)
    show ((w.setCell ⟨g, o, none⟩ v).setCells g (o+1) r).ownsRow base e 1 _ m _
    have e1 : (L.set o v).take (o+1) = L.take o ++ [v] := by
      rw [List.take_succ_eq_append_getElem (by rw [List.length_set]; omega), List.take_set_of_le (Nat.le_refl o), List.getElem_set_self]
    have e2 : (L.set o v).drop (o + 1 + r.length) = L.drop (o + (v :: r).length) := by
      rw [List.drop_set_of_lt (by omega)]
      congr 1
      simp only [List.length_cons]; omega
    rw [e1, e2] at h1
    simpa using h1
theorem chg_cells {g : Nat} : ∀ (vs : List Value) (o : Nat) (w : World), ChgS (fun k => k = g) w (w.setCells g o vs)
  | [], _, w => ChgS.refl _ _
  | v :: r, o, w => ((ChgS.refl (fun k => k = g) w).set ⟨g, o, none⟩ v rfl).trans (chg_cells r (o+1) _)
theorem chg_drew (S : Nat → Prop) (w : World) : ChgS S w w.drew := ChgS.of_below (Below.refl _ _).drew S
theorem chg_drewN (S : Nat → Prop) (w : World) (q : Nat) : ChgS S w (w.drewN q) := ChgS.of_below (below_drewN (Below.refl _ _) q) S
theorem owns_drew {w : World} {base e sz n : Nat} {v : Value} {cs : List Value} (h : w.ownsRow base e sz v n cs) : w.drew.ownsRow base e sz v n cs := owns_same h fun _ _ => rfl
theorem owns_drewN {w : World} {base e sz n : Nat} {v : Value} {cs : List Value} (h : w.ownsRow base e sz v n cs) (q : Nat) : (w.drewN q).ownsRow base e sz v n cs := owns_same h fun k _ => by simp [World.drewN]
theorem owns_alloc (w : World) (base e n cap : Nat) (cur : Array Value) (hb : base ≤ w.heap.size) (hn : n ≤ cap) (hm : cap ≤ maxLen) (hs : cur.size = cap) : (w.alloc (.cells cur e)).ownsRow base e 1 (.slice (some ⟨w.heap.size, 0, none⟩) n cap) n (cur.toList.take n) :=
  ⟨by rw [List.length_take, Array.length_toList]; omega, .inr ⟨w.heap.size, cap, cur, rfl, hb, heap_alloc_new w _, hn, hm, by omega, by rw [Nat.mul_one]⟩⟩
theorem owns_cut {w : World} {base e n g cap : Nat} {cs : List Value} (h : w.ownsRow base e 1 (.slice (some ⟨g, 0, none⟩) n cap) n cs) (k : Nat) (hk : k ≤ n) : w.ownsRow base e 1 (.slice (some ⟨g, 0, none⟩) k cap) k (cs.take k) := by
  obtain ⟨hl, h⟩ := h
  refine ⟨by rw [List.length_take]; omega, ?_⟩
  rcases h with ⟨h, h0⟩ | ⟨g', cap', cur, hv, hb, hg, hnc, hm, hcs, ht⟩
  · cases h
  · obtain ⟨rfl, rfl⟩ : g = g' ∧ cap = cap' := by simpa using hv
    exact .inr ⟨g, cap, cur, rfl, hb, hg, by omega, hm, hcs, by rw [← ht, List.take_take]; congr 1; omega⟩
/-- A row of the call's own behind the sort. -/
theorem owns_sort {w : World} {base e g cap n m : Nat} {cs : List Value} {ys : List Int} {os : Array Obj} (h : w.ownsRow base e 1 (.slice (some ⟨g, 0, none⟩) n cap) n cs) (hy : ys.length = n) :
    (Go.Sort.grow (Go.Sort.putRow (Value.int .i64) (Go.Sort.ahead w m) g 0 ys.toArray) os).ownsRow base e 1 (.slice (some ⟨g, 0, none⟩) n cap) n (ys.flatMap encI) ∧ ∀ N, N ≤ g → Below N w (Go.Sort.grow (Go.Sort.putRow (Value.int .i64) (Go.Sort.ahead w m) g 0 ys.toArray) os) := by
  have hyl : (ys.flatMap encI).length = n * 1 := by rw [flatMap_len encI 1 (fun _ => rfl), hy]
  rcases h.2 with ⟨h1, h2⟩ | ⟨g', cap', cur, hv, hb, hg, hn, hm, hs, ht⟩
  · cases h1
  · simp only [Value.slice.injEq, Option.some.injEq, Addr.mk.injEq, and_true, true_and] at hv
    obtain ⟨rfl, rfl⟩ := hv
    have hgs : g < w.heap.size := (Array.getElem?_eq_some_iff.1 hg).1
    have hheap : ∀ k, k < w.heap.size → (Go.Sort.grow (Go.Sort.putRow (Value.int .i64) (Go.Sort.ahead w m) g 0 ys.toArray) os).heap[k]? = if g = k then w.heap[k]?.map (Go.Sort.onCells (Go.Sort.putCells (Value.int .i64) 0 ys.toArray)) else w.heap[k]? := by
      intro k hk
      unfold Go.Sort.putRow Go.Sort.mapBlock Go.Sort.grow Go.Sort.ahead
      simp only [Array.getElem?_append, Array.size_modify, Array.getElem?_modify]
      rw [if_pos hk]
    refine ⟨⟨hyl, .inr ⟨g, cap, Go.Sort.putCells (Value.int .i64) 0 ys.toArray cur, rfl, hb, ?_, hn, hm, ?_, ?_⟩⟩, fun N hN => ⟨rfl, rfl, rfl, ?_, fun k hk => ?_⟩⟩
    · rw [hheap g hgs, if_pos rfl, hg]; rfl
    · simp [Go.Sort.putCells, hs]
    · rw [encI_map]
      apply List.ext_getElem?
      intro t
      by_cases ht2 : t < n
      · have htc : t < cur.size := by omega
        have hty : t < ys.length := by omega
        rw [List.getElem?_take_of_lt (by omega), Array.getElem?_toList]
        simp only [Go.Sort.putCells, Array.getElem?_mapIdx, Array.getElem?_eq_getElem htc, Option.map_some, Nat.sub_zero, Nat.zero_add, List.size_toArray]
        rw [if_pos ⟨Nat.zero_le _, hty⟩, List.getElem?_map, List.getElem?_eq_getElem hty]
        simp [hty]
      · rw [List.getElem?_eq_none (by rw [List.length_take]; omega), List.getElem?_eq_none (by rw [List.length_map]; omega)]
    · unfold Go.Sort.putRow Go.Sort.mapBlock Go.Sort.grow Go.Sort.ahead
      simp
    · have hk2 : k < w.heap.size := by omega
      rw [hheap k hk2, if_neg (by omega)]
end Go.Own
namespace Go.Proofs.Ytdgmbcmgjadoiaa
set_option maxRecDepth 100000
open Go.RowKit Go.Proofs Go.Own
set_option linter.unusedVariables false
set_option linter.unusedSimpArgs false
theorem zeros_size (n : Nat) : (Builtin.zeroCells (Value.int .i64 0).cells n).size = n := by simp [Builtin.zeroCells, Value.cells]
/-- A list of the call's own with one value put in between. -/
theorem impl_Insert (ys : List Int) (x : Int) (k : Nat) (hk : k ≤ ys.length) (hl : ys.length ≤ 1048576) (v : Value) (vb : Nat) (w : World) (Ri : Nat → Prop) (o : ownL Ri w v ys) (hRi : ∀ b, Ri b → b < w.heap.size ∧ b ≠ vb) (hlit : w.heap[vb]? = some (.cells #[.int .i64 x] 3 (0, 0))) :
    Calls Try.prog 83 #[v, .int .i64 (k : Nat), .slice (some ⟨vb, 0, none⟩) 1 1] w fun e w' => ∃ (u : Value) (T : Nat → Prop), e = .returned u ∧ ownL T w' u (ys.take k ++ x :: ys.drop k) ∧ (∀ b, T b → Ri b ∨ (w.heap.size ≤ b ∧ b < w'.heap.size)) ∧ ChgS Ri w w' := by
  obtain ⟨oI, oB⟩ := ownInts.1 o
  have hfin : ∀ (w' : World) (u : Value), w'.ownsRow 0 3 1 u (ys.length + 1) (((ys.flatMap Go.Own.encI).take k) ++ Value.int .i64 x :: ((ys.flatMap Go.Own.encI).drop k)) → (∀ b, Blk u b → Ri b ∨ (w.heap.size ≤ b ∧ b < w'.heap.size)) → ownL (Blk u) w' u (ys.take k ++ x :: ys.drop k) := fun w' u h hb => by
    refine ownInts.2 ⟨?_, fun _ h => h⟩
    have e1 : (ys.take k ++ x :: ys.drop k).length = ys.length + 1 := by rw [List.length_append, List.length_cons, List.length_take, List.length_drop]; omega
    have e2 : (ys.take k ++ x :: ys.drop k).flatMap Go.Own.encI = (ys.flatMap Go.Own.encI).take k ++ Value.int .i64 x :: (ys.flatMap Go.Own.encI).drop k := by
      rw [encI_map, encI_map, List.map_append, List.map_cons, List.map_take, List.map_drop]
    rw [e1, e2]; exact h
  have hcl : (ys.flatMap Go.Own.encI).length = ys.length := by rw [flatMap_len Go.Own.encI 1 (fun _ => rfl)]; omega
  have h1c := oneCell_enc oneCell_I ys
  have hvs : ∀ j v, [Value.int .i64 x][j]? = some v → w.cell? ⟨vb, 0 + j, none⟩ = some v := fun j v hj => by
    rw [Nat.zero_add, cell_of_row w vb j _ _ (0, 0) hlit]
    simpa using hj
  have h1v : ∀ v ∈ [Value.int .i64 x], v.oneCell' = true := by intro v hv; simp at hv; subst hv; rfl
  generalize hcs : ys.flatMap Go.Own.encI = cs at *
  rcases oI.2 with ⟨rfl, h0⟩ | ⟨g, cap, cur, rfl, hb, hg, hnc, hm, hcs2, ht⟩
  · -- nil
    have hk0 : k = 0 := by omega
    subst hk0
    refine (Any2.slices_Insert_int_end_grow Try.laysNm221 none 0 0 vb 0 1 1 [] [.int .i64 x] w (by decide) (by decide) (by decide) (by decide) rfl rfl (fun _ => rfl) (fun a h => by cases h) hvs h1v).mono ?_
    rintro e w' ⟨rfl, rfl⟩
    have hge := grownCap_ge w (0+1) 0 3
    have hle := grownCap_le_maxLen w (0+1) 0 3 (by decide)
    have hcs0 : cs = [] := List.eq_nil_of_length_eq_zero (by omega)
    have hsz : w.drew.heap.size = w.heap.size := rfl
    have r := owns_alloc w.drew 0 3 1 (grownCap w (0+1) 0 3) ((([] : List Value) ++ [Value.int .i64 x]).toArray ++ Builtin.zeroCells (Value.int .i64 0).cells (grownCap w (0+1) 0 3 - (0+1))) (Nat.zero_le _) (by omega) hle (by rw [Array.size_append, zeros_size]; show 1 + _ = _; omega)
    have hB : ∀ b, Blk (Value.slice (some ⟨w.heap.size, 0, none⟩) (0+1) (grownCap w (0+1) 0 3)) b → Ri b ∨ (w.heap.size ≤ b ∧ b < (w.drew.alloc (.cells ((([] : List Value) ++ [Value.int .i64 x]).toArray ++ Builtin.zeroCells (Value.int .i64 0).cells (grownCap w (0+1) 0 3 - (0+1))) 3)).heap.size) := fun b hb => by
      obtain rfl : w.heap.size = b := Option.some.inj hb
      exact .inr ⟨Nat.le_refl _, by simp⟩
    refine ⟨_, _, rfl, hfin _ _ ?_ hB, hB, ChgS.of_below (((Below.refl _ _).drew).alloc (Nat.le_refl _) _) _⟩
    rw [h0, hcs0]
    have e9 : ((([] : List Value) ++ [Value.int .i64 x]).toArray ++ Builtin.zeroCells (Value.int .i64 0).cells (grownCap w (0+1) 0 3 - (0+1))).toList.take 1 = [Value.int .i64 x] := by simp
    rw [e9] at r
    exact r
  · have hgl : g < w.heap.size := (Array.getElem?_eq_some_iff.1 hg).1
    have hRg : Ri g := oB g rfl
    have hvg : vb ≠ g := fun e => (hRi g hRg).2 e.symm
    have hcells : ∀ j v, cs[j]? = some v → w.cell? ⟨g, 0 + j, none⟩ = some v := fun j v hj => by
      have hjl : j < cs.length := by
        rcases Nat.lt_or_ge j cs.length with h9 | h9
        · exact h9
        · rw [List.getElem?_eq_none h9] at hj; cases hj
      rw [Nat.zero_add, oI.cellAt j (by omega)]; exact hj
    have hsp : ∀ j, j < cap → (w.cell? ⟨g, 0 + j, none⟩).isSome = true := fun j hj => by
      rw [Nat.zero_add, cell_of_row w g j _ _ (0, 0) hg, Array.getElem?_eq_getElem (by omega)]; rfl
    have hfz : ∀ j, w.frozen? ⟨g, j, none⟩ = false := fun j => frozen_of_row w g j _ _ hg
    have hBg : ∀ (w' : World) n c, ∀ b, Blk (Value.slice (some ⟨g, 0, none⟩) n c) b → Ri b ∨ (w.heap.size ≤ b ∧ b < w'.heap.size) := fun w' n c b hb => by
      obtain rfl : g = b := Option.some.inj hb
      exact .inl hRg
    have hCg : ∀ {w'}, ChgS (fun k => k = g) w w' → ChgS Ri w w' := fun C => C.mono fun k hk => by subst hk; exact hRg
    by_cases hroom : ys.length + 1 ≤ cap
    · obtain ⟨z, oz⟩ := owns_ext oI (by omega)
      by_cases hkn : k < ys.length
      · refine (Any2.slices_Insert_int_shift Try.laysNm221 g 0 ys.length cap k vb 0 1 1 cs [.int .i64 x] w hkn (by decide) hroom (by unfold maxLen at hm; omega) hvg hcl rfl hcells (fun j hj => hsp j (by omega)) (fun j _ => by rw [Nat.zero_add]; exact hfz j) hvs h1c h1v 3 3 1 cur.size (by simp [World.shape?, hlit]) (by simp [World.shape?, hg]) (by omega) (frozen_of_row w vb 0 _ _ hlit) (frozen_of_row w vb 1 _ _ hlit)).mono ?_
        rintro e w' ⟨rfl, rfl⟩
        have r1 := owns_cells (cs.drop k) (0 + (k + 1)) w.drew _ (owns_drew oz) (by rw [List.length_drop]; omega)
        have r2 := owns_cells [Value.int .i64 x] (0 + k) _ _ r1 (by simp; omega)
        refine ⟨_, _, rfl, hfin _ _ ?_ (hBg _ _ _), hBg _ _ _, hCg (((chg_drew _ w).trans (chg_cells _ _ _)).trans (chg_cells _ _ _))⟩
        have e9 : ∀ L : List Value, L.length = cs.length + 1 → (L.take k = cs.take k) → ((L.take (0 + (k + 1)) ++ (cs.drop k ++ L.drop (0 + (k + 1) + (cs.drop k).length))).take (0 + k) ++ ([Value.int .i64 x] ++ (L.take (0 + (k + 1)) ++ (cs.drop k ++ L.drop (0 + (k + 1) + (cs.drop k).length))).drop (0 + k + [Value.int .i64 x].length))) = cs.take k ++ Value.int .i64 x :: cs.drop k := by
          intro L hL hLk
          have h2 : L.drop (0 + (k + 1) + (cs.drop k).length) = [] := List.drop_eq_nil_of_le (by rw [List.length_drop]; omega)
          have h3 : (L.take (0 + (k + 1))).length = k + 1 := by rw [List.length_take]; omega
          rw [h2, List.append_nil, List.take_append_of_le_length (by omega), List.take_take, show min (0 + k) (0 + (k + 1)) = k by omega, hLk]
          congr 1
          show Value.int .i64 x :: _ = _
          congr 1
          rw [List.drop_append_of_le_length (by rw [h3]; simp), List.drop_eq_nil_of_le (by rw [h3]; simp)]
          rfl
        rw [e9 (cs ++ [z]) (by simp) (by rw [List.take_append_of_le_length (by omega)])] at r2
        exact r2
      · have hke : k = ys.length := by omega
        subst hke
        refine (Any2.slices_Insert_int_end_room Try.laysNm221 g 0 ys.length cap vb 0 1 1 [.int .i64 x] w (by decide) hroom (by unfold maxLen at hm; omega) rfl (fun j hj => by have := hsp (ys.length + j) (by omega); rwa [Nat.zero_add] at this ⊢) (fun j hj => hfz _) hvs h1v).mono ?_
        rintro e w' ⟨rfl, rfl⟩
        have r1 := owns_cells [Value.int .i64 x] (0 + ys.length) w _ oz (by simp)
        refine ⟨_, _, rfl, hfin _ _ ?_ (hBg _ _ _), hBg _ _ _, hCg (chg_cells _ _ _)⟩
        have e9 : (cs ++ [z]).take (0 + ys.length) ++ ([Value.int .i64 x] ++ (cs ++ [z]).drop (0 + ys.length + [Value.int .i64 x].length)) = cs.take ys.length ++ Value.int .i64 x :: cs.drop ys.length := by
          rw [Nat.zero_add, List.take_append_of_le_length (by omega), List.drop_eq_nil_of_le (by simp; omega), List.drop_eq_nil_of_le (by omega)]; rfl
        rw [e9] at r1
        exact r1
    · have hbig : (ys.length + 1) * 8 ≤ 140737488355328 := by omega
      have hge := grownCap_ge w (ys.length+1) cap 3
      have hle := grownCap_le_maxLen w (ys.length+1) cap 3 (by unfold maxLen; omega)
      by_cases hkn : k < ys.length
      · refine (Any2.slices_Insert_int_grow Try.laysNm221 g 0 ys.length cap k vb 0 1 1 cs [.int .i64 x] w hkn (by decide) hnc (by omega) hbig hcl rfl hcells hvs h1c h1v).mono ?_
        rintro e w' ⟨rfl, rfl⟩
        obtain ⟨G, hG⟩ : ∃ G, grownCap w (ys.length+1) cap 3 = G := ⟨_, rfl⟩
        rw [show grownCap w (ys.length + 1) cap (Try.laysNm221_ren.t 3) = G from hG]
        rw [hG] at hge hle
        have r0 := owns_alloc w 0 3 (ys.length + 1) G ((cs.take k).toArray ++ Builtin.zeroCells (Value.int .i64 0).cells (ys.length + 1 - k) ++ Builtin.zeroCells (Value.int .i64 0).cells (G - (ys.length + 1))) (Nat.zero_le _) (by omega) hle (by simp [Builtin.zeroCells, Value.cells]; omega)
        have hw0 : ∀ o, ChgS Ri w (w.alloc o) := fun o => ChgS.of_below ((Below.refl _ _).alloc (Nat.le_refl _) _) _
        have r1 := owns_cells [Value.int .i64 x] k _ _ (owns_drew r0) (by simp; omega)
        have r2 := owns_cells (cs.drop k) (k + 1) _ _ (owns_drew r1) (by rw [List.length_drop]; omega)
        have hsz : ∀ o, w.heap.size < (w.alloc o).heap.size := fun o => by simp
        have hB : ∀ (W : World) n c, (w.heap.size < W.heap.size) → ∀ b, Blk (Value.slice (some ⟨w.heap.size, 0, none⟩) n c) b → Ri b ∨ (w.heap.size ≤ b ∧ b < W.heap.size) := fun W n c hW b hb => by
          obtain rfl : w.heap.size = b := Option.some.inj hb
          exact .inr ⟨Nat.le_refl _, hW⟩
        have hchg : ∀ o, ChgS Ri w (((w.alloc o).drew.setCells w.heap.size k [Value.int .i64 x]).drew.setCells w.heap.size (k + 1) (cs.drop k)) := fun o => by
          have b1 : Below w.heap.size w (w.alloc o) := (Below.refl _ _).alloc (Nat.le_refl _) _
          have c2 := (((chg_drew (fun k => k = w.heap.size) (w.alloc o)).trans (chg_cells [Value.int .i64 x] k _)).trans (chg_drew _ _)).trans (chg_cells (cs.drop k) (k + 1) _)
          exact ChgS.of_below (below_chg b1 c2 b1.size (fun q hq => by omega)) _
        have hszW := fun o => Nat.lt_of_lt_of_le (hsz o) ((((chg_drew (fun k => k = w.heap.size) (w.alloc o)).trans (chg_cells [Value.int .i64 x] k _)).trans (chg_drew _ _)).trans (chg_cells (cs.drop k) (k + 1) _)).size
        refine ⟨_, _, rfl, hfin _ _ ?_ (hB _ _ _ (hszW _)), hB _ _ _ (hszW _), hchg _⟩
        have e9 : ∀ L : List Value, L.length = cs.length + 1 → (L.take k = cs.take k) → ((L.take k ++ ([Value.int .i64 x] ++ L.drop (k + [Value.int .i64 x].length))).take (k + 1) ++ (cs.drop k ++ (L.take k ++ ([Value.int .i64 x] ++ L.drop (k + [Value.int .i64 x].length))).drop (k + 1 + (cs.drop k).length))) = cs.take k ++ Value.int .i64 x :: cs.drop k := by
          intro L hL hLk
          have hkc : (cs.take k).length = k := by rw [List.length_take]; omega
          have hll : (cs.take k ++ ([Value.int .i64 x] ++ L.drop (k + 1))).length = cs.length + 1 := by rw [List.length_append, List.length_append, hkc, List.length_drop, hL]; show k + (1 + _) = _; omega
          have h6 : (cs.take k ++ ([Value.int .i64 x] ++ L.drop (k + 1))).drop (k + 1 + (cs.drop k).length) = [] := List.drop_eq_nil_of_le (by rw [hll, List.length_drop]; omega)
          have h7 : (cs.take k ++ ([Value.int .i64 x] ++ L.drop (k + 1))).take (k + 1) = cs.take k ++ [Value.int .i64 x] := by
            rw [List.take_append, hkc, List.take_of_length_le (by omega), show k + 1 - k = 1 by omega]; rfl
          rw [hLk, show k + [Value.int .i64 x].length = k + 1 from rfl, h6, h7, List.append_nil, List.append_assoc]; rfl
        rw [e9 _ (by rw [List.length_take, Array.length_toList]; simp [Builtin.zeroCells, Value.cells]; omega) (by
          rw [List.take_take, show min k (ys.length + 1) = k by omega, Array.toList_append, Array.toList_append, List.append_assoc, List.take_append_of_le_length (by simp; omega)]
          simp [List.take_take])] at r2
        exact r2
      · have hke : k = ys.length := by omega
        subst hke
        refine (Any2.slices_Insert_int_end_grow Try.laysNm221 (some ⟨g, 0, none⟩) ys.length cap vb 0 1 1 cs [.int .i64 x] w (by decide) hnc (by omega) hbig hcl rfl (fun h => by cases h) (fun a ha j v hj => by obtain rfl : (⟨g, 0, none⟩ : Addr) = a := Option.some.inj ha; rw [Addr.add_lit]; exact hcells j v hj) hvs h1v).mono ?_
        rintro e w' ⟨rfl, rfl⟩
        obtain ⟨G, hG⟩ : ∃ G, grownCap w (ys.length+1) cap 3 = G := ⟨_, rfl⟩
        rw [show grownCap w (ys.length + 1) cap (Try.laysNm221_ren.t 3) = G from hG]
        rw [hG] at hge hle
        have r := owns_alloc w.drew 0 3 (ys.length + 1) G ((cs ++ [Value.int .i64 x]).toArray ++ Builtin.zeroCells (Value.int .i64 0).cells (G - (ys.length + 1))) (Nat.zero_le _) (by omega) hle (by simp [Builtin.zeroCells, Value.cells]; omega)
        have hB : ∀ (W : World) n c, (w.heap.size < W.heap.size) → ∀ b, Blk (Value.slice (some ⟨w.heap.size, 0, none⟩) n c) b → Ri b ∨ (w.heap.size ≤ b ∧ b < W.heap.size) := fun W n c hW b hb => by
          obtain rfl : w.heap.size = b := Option.some.inj hb
          exact .inr ⟨Nat.le_refl _, hW⟩
        refine ⟨_, _, rfl, hfin _ _ ?_ (hB _ _ _ (by simp)), hB _ _ _ (by simp), ChgS.of_below (((Below.refl _ _).drew).alloc (Nat.le_refl _) _) _⟩
        have e9 : ((cs ++ [Value.int .i64 x]).toArray ++ Builtin.zeroCells (Value.int .i64 0).cells (G - (ys.length + 1))).toList.take (ys.length + 1) = cs.take ys.length ++ Value.int .i64 x :: cs.drop ys.length := by
          rw [Array.toList_append, List.take_append_of_le_length (by simp; omega), List.take_of_length_le (by simp; omega), List.take_of_length_le (by omega), List.drop_eq_nil_of_le (by omega)]
        rw [e9] at r
        exact r
/-- A list of the call's own without one place. -/
theorem impl_Delete (ys : List Int) (k : Nat) (hk : k < ys.length) (hl : ys.length ≤ 1048576) (v : Value) (w : World) (Ri : Nat → Prop) (o : ownL Ri w v ys) :
    Calls Try.prog 76 #[v, .int .i64 (k : Nat), .int .i64 ((k : Nat) + 1)] w fun e w' => ∃ (u : Value) (T : Nat → Prop), e = .returned u ∧ ownL T w' u (ys.take k ++ ys.drop (k+1)) ∧ (∀ b, T b → Ri b) ∧ ChgS Ri w w' := by
  obtain ⟨oI, oB⟩ := ownInts.1 o
  obtain ⟨g, cap, rfl, hnc, hm, hgb, hgs, -, -⟩ := owns_at oI (by omega)
  have hRg : Ri g := oB g rfl
  have hc : ∀ j, j < ys.length → w.cell? ⟨g, 0 + j, none⟩ = some (.int .i64 (ys.getD j 0)) := fun j hj => by
    rw [Nat.zero_add, oI.cellAt j (by omega), encI_map, List.getElem?_map, List.getElem?_eq_getElem hj, List.getD_eq_getElem?_getD, List.getElem?_eq_getElem hj]; rfl
  have e1 : ((k : Int) + 1) = ((k + 1 : Nat) : Int) := by omega
  rw [e1]
  refine (Try.slices_Delete_int_cells g 0 ys.length cap k (k+1) ys w (Nat.le_refl _) hnc hm (by omega) hk hc (fun j _ => by rw [Nat.zero_add]; exact oI.frozenAt j)).mono ?_
  rintro e w' ⟨rfl, q, rfl⟩
  have r0 := owns_cells (((ys.take ys.length).take k ++ (ys.take ys.length).drop (k+1) ++ List.replicate (k + 1 - k) 0).map (Value.int .i64)) 0 (w.drewN q) _ (owns_drewN oI q) (by simp; omega)
  have hl2 : ys.length - (k + 1 - k) = ys.length - 1 := by omega
  have r1 := owns_cut r0 (ys.length - 1) (by omega)
  have e9 : (((ys.flatMap Go.Own.encI).take 0 ++ ((((ys.take ys.length).take k ++ (ys.take ys.length).drop (k+1) ++ List.replicate (k + 1 - k) 0).map (Value.int .i64)) ++ (ys.flatMap Go.Own.encI).drop (0 + (((ys.take ys.length).take k ++ (ys.take ys.length).drop (k+1) ++ List.replicate (k + 1 - k) 0).map (Value.int .i64)).length))).take (ys.length - 1)) = (ys.take k ++ ys.drop (k+1)).flatMap Go.Own.encI := by
    rw [encI_map, encI_map, List.take_length, List.take_zero, List.nil_append, List.map_append, List.append_assoc, List.take_append_of_le_length (by simp; omega)]
    rw [List.take_of_length_le (by simp; omega)]
  rw [e9] at r1
  have e2 : (ys.take k ++ ys.drop (k+1)).length = ys.length - 1 := by rw [List.length_append, List.length_take, List.length_drop]; omega
  refine ⟨_, Blk (.slice (some ⟨g, 0, none⟩) (ys.length - (k + 1 - k)) cap), rfl, ownInts.2 ⟨by rw [e2, hl2]; exact r1, fun _ h => h⟩, fun b hb => by obtain rfl : g = b := Option.some.inj hb; exact hRg, ((chg_drewN _ w q).trans (chg_cells _ _ _)).mono fun b hb => by subst hb; exact hRg⟩
/-- Where a value stands, or comes to stand, in an ascending list. -/
theorem cntLt_count {xs : List Int} (h : xs.Pairwise (· ≤ ·)) (x : Int) : cntLt xs x = xs.countP (· < x) := by
  unfold cntLt
  induction xs with
  | nil => rfl
  | cons y ys ih =>
    obtain ⟨h1, h2⟩ := List.pairwise_cons.1 h
    rw [List.takeWhile_cons, List.countP_cons]
    by_cases hy : y < x
    · simp only [hy, decide_true, if_true, List.length_cons]
      rw [ih h2]
    · simp only [hy, decide_false]
      have : ys.countP (· < x) = 0 := by
        rw [List.countP_eq_zero]
        intro z hz
        have := h1 z hz
        simp; omega
      simp [this]
theorem impl_Search (ys : List Int) (x : Int) (hs : ys.Pairwise (· ≤ ·)) (hl : ys.length ≤ 1048576) (v : Value) (w : World) (h : Ints w v ys) :
    Calls Try.prog 82 #[v, .int .i64 x] w fun e w' => ∃ r : Bool, e = .returned (.tuple #[.int .i64 ((cntLt ys x : Nat) : Int), .bool r]) ∧ ∃ q, w' = w.drewN q := by
  obtain ⟨ad, cap, rfl, hlc, hm, hc⟩ := h.open
  by_cases h0 : ys.length = 0
  · obtain rfl := List.eq_nil_of_length_eq_zero h0
    refine (Try.slices_BinarySearch_int_empty ad cap x w).mono ?_
    rintro e w' ⟨rfl, rfl⟩
    exact ⟨false, rfl, 0, rfl⟩
  · obtain ⟨b, off, rfl, hbs, _⟩ := hc 0 (by omega)
    refine (Try.slices_BinarySearch_int b off ys.length cap ys x w (Nat.le_refl _) (by omega) (fun j hj => ?_) (by rw [List.take_length]; exact hs)).mono ?_
    · obtain ⟨b', off', e, _, c⟩ := hc j hj
      obtain ⟨rfl, rfl⟩ : b = b' ∧ off = off' := by simpa using e
      rw [c, List.getD_eq_getElem?_getD, List.getElem?_eq_getElem hj]; rfl
    · rintro e w' ⟨rfl, q, rfl⟩
      exact ⟨_, by rw [List.take_length, cntLt_count hs], q, rfl⟩
/-- A list of the call's own put in order. -/
theorem impl_Sort (ys : List Int) (v : Value) (w : World) (base : Nat) (h : w.ownsRow base 3 1 v ys.length (ys.flatMap Go.Own.encI)) (hl : ys.length ≤ 1048576) (hb : base ≤ w.heap.size) :
    Calls Try.prog 63 #[v] w fun e w' => e = .returned (.tuple #[]) ∧ w'.ownsRow base 3 1 v ys.length ((ys.mergeSort fun x y => decide (x ≤ y)).flatMap Go.Own.encI) ∧ Below base w w' := by
  rcases h.2 with ⟨rfl, h0⟩ | ⟨g, cap, cur, rfl, hbg, hg, hnc, hm, hs, ht⟩
  · obtain rfl := List.eq_nil_of_length_eq_zero h0
    refine (Try.slices_Sort_int_none none 0 w).mono ?_
    rintro e w' ⟨rfl, rfl⟩
    exact ⟨rfl, by simpa using h, Below.refl _ _⟩
  · have hgl : g < w.heap.size := (Array.getElem?_eq_some_iff.1 hg).1
    refine (Try.slices_Sort_int g 0 cap ys w (fun j hj => ?_) hgl (by omega)).mono ?_
    · have hj2 : j < ys.length := by simpa using hj
      refine ⟨?_, by rw [Nat.zero_add]; exact frozen_of_row w g j _ _ hg⟩
      rw [Nat.zero_add, h.cellAt j (by omega), encI_map, List.getElem?_map, List.getElem?_eq_getElem hj2]
      simp [hj2]
    · rintro e w' ⟨rfl, m, os, rfl⟩
      have z := owns_sort (m := m) (os := os) (ys := ys.mergeSort fun x y => decide (x ≤ y)) h (by simp)
      exact ⟨rfl, z.1, z.2 base hbg⟩
theorem impl_Index (ys : List Int) (x : Int) (hx : x ∈ ys) (v : Value) (w : World) (h : Ints w v ys) :
    Calls Try.prog 68 #[v, .int .i64 x] w fun e w' => e = .returned (.int .i64 (Lib.idxOf ys x)) ∧ w' = w := by
  obtain ⟨ad, cap, rfl, hlc, hm, hc⟩ := h.open
  have hpos : 0 < ys.length := List.length_pos_of_mem hx
  obtain ⟨b, off, rfl, hbs, _⟩ := hc 0 hpos
  refine (Try.slices_Index_int b off ys.length cap ys x w (Nat.le_refl _) (by omega) (fun j hj => ?_)).mono ?_
  · obtain ⟨b', off', e, _, c⟩ := hc j hj
    obtain ⟨rfl, rfl⟩ : b = b' ∧ off = off' := by simpa using e
    rw [c, List.getD_eq_getElem?_getD, List.getElem?_eq_getElem hj]; rfl
  · rintro e w' ⟨rfl, rfl⟩
    exact ⟨by rw [List.take_length], rfl⟩
end Go.Proofs.Ytdgmbcmgjadoiaa
