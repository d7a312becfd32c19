/- Chapter 13's program: MapPairs. (printed by tools/mk_i13r.py) -/
import Derived.Test.YtadbgfaboafkeaaI13r
import Derived.Test.YtadbgfaboafkeaaS13p
namespace Go.Proofs.Ytadbgfaboafkeaa
set_option maxRecDepth 100000
open Go.RowKit Go.Proofs Go.Own Go.Shelf
open Go Go.BigFrame
set_option linter.unusedVariables false
set_option linter.unusedSimpArgs false
attribute [local go_sem] Oper.semAt_some
theorem inL_append_at {F : Fence} {n : Nat} {P : Program} {w : World} {ops : Array Oper} {rest : List Oper} {o : Oper} {a : Act} {Q : Exit → Act → World → Prop}
    (hg : o.guard = none) (s x : Operand) (t : TypeId) (hop : o.op = Op.call { callee := Callee.builtin Builtin.append, args := #[s, x], argTypes := #[t, t] })
    (base : Nat) (e : TypeId) (i : TypeInfo) (z : Value) (size bytes : Nat) (h1 : P.underlying t = some (.slice e)) (h2 : P.info? e = some i) (h3 : i.zero = some z) (h4 : i.size = size) (h5 : i.bytes = bytes) (h6 : z.cells.size = size) (h7 : 0 < size)
    (v : Value) (k : Nat) (xs : List Value) (hs : a.eval s = v) (hown : w.ownsRow base e size v k xs) (ad : Addr) (c : Nat) (news : List Value) (hx : a.eval x = .slice (some ad) 1 c) (hn : news.length = 1 * size)
    (hc : ∀ j u, news[j]? = some u → w.cell? (ad.add j) = some u) (h1c : ∀ u ∈ news, u.oneCell' = true) (b1 : k + 1 ≤ maxLen) (b2 : (k + 1) * bytes ≤ 140737488355328) (b3 : base ≤ w.heap.size)
    (hK : ∀ v' w', w'.ownsRow base e size v' (k + 1) (xs ++ news) → w.grownBy w' v.ownBlock → (∀ b, v'.ownBlock = some b → v.ownBlock = some b ∨ b = w.heap.size) → wpListIn F n P ops Q rest (a.put o.dst v') w') :
    wpListIn F n P ops Q (o :: rest) a w := by
  obtain ⟨v', w', hrun, r1, r2, _⟩ := run_append_own (P := P) (w := w) base t o.type e i z size bytes h1 h2 h3 h4 h5 h6 h7 v k xs hown ad 1 c news hn hc h1c b1 b2 b3
  have hp := append_place (P := P) base t o.type e i z size bytes h1 h2 h3 h4 h5 v k xs hown ad 1 c news hn hc h1c b1 b2 (by decide) hrun
  refine wpListIn_plain hg fun K hK' => ?_
  unfold Oper.wpIn
  refine ⟨?_, ?_⟩
  · simp [Oper.about, hop, resolve, Target.leads, Sem.run_pure]
  · rw [Oper.semAt_plain F _ _ (by rw [hop]; intro c hc'; cases hc')]
    simp [execOp, hop, resolve, invoke, builtin, hs, hx, hrun, Result.andThen]
    exact hK' _ _ (hK v' w' r1 r2 hp)
/-- What the boxes hold between two rounds. -/
def prI (c : ChainD) (ce : List Value) (w : World) (K1 : Nat) (pre : List Nat) (W : World) : Prop :=
  BoxF W (K1 + 2) ce ∧ Below w.heap.size w W ∧
  ∃ (ua : Option Addr) (um uc : Nat) (va : Option Addr) (vm vc : Nat) (X : List Node) (m : Nat) (t : Int), BoxF W K1 [.slice ua um uc] ∧ BoxF W (K1 + 1) [.slice va vm vc] ∧ W.ownsRow (K1 + 3) 3 1 (.slice ua um uc) X.length ((keysI X).flatMap encI) ∧ W.ownsRow (K1 + 3) 3 1 (.slice va vm vc) X.length ((valsI X).flatMap encI) ∧ (∀ b, (Value.slice ua um uc).ownBlock = some b → ¬ (Value.slice va vm vc).ownBlock = some b) ∧ X.length = pre.length ∧ X.length + m ≤ 16 ∧ Hid (linkTo c.nodes_ m (nextOf c.nodes_ c.first_ pre) t = true) ∧ Hid (X ++ pairsTo c.nodes_ m (nextOf c.nodes_ c.first_ pre) = pairsC c)
set_option maxHeartbeats 8000000 in
theorem impl_MapPairs0 (c : ChainD) (hc : c.nodes_.length = 16) (w : World) :
    Calls Try.prog 23 #[.agg c.enc.toArray] w fun e w' => ∃ u v : Value, e = .returned (.tuple #[u, v]) ∧ w'.ownsRow w.heap.size 3 1 u (keysI (pairsC c)).length ((keysI (pairsC c)).flatMap encI) ∧ w'.ownsRow w.heap.size 3 1 v (valsI (pairsC c)).length ((valsI (pairsC c)).flatMap encI) ∧ (∀ b, u.ownBlock = some b → ¬ v.ownBlock = some b) ∧ Below w.heap.size w w' := by
  obtain ⟨j0, hj, hy0, hy1, hy2⟩ := info_parts infoIntC
  have hu16 := hid (usedN_16 hc)
  have hl := chain_len hc
  have hl2 : c.enc.toArray.size = 65 := by rw [List.size_toArray, hl]
  have HC := hid hc
  have HCK0 := hid (fun (W : World) => impl_ChainOk0 c hc W)
  generalize hce : c.enc = ce at *
  obtain ⟨W1, hW1⟩ : ∃ X, w.alloc (.cells ce.toArray 31) = X := ⟨_, rfl⟩
  have hB1 : Below w.heap.size w W1 := by rw [← hW1]; exact (Below.refl _ _).alloc (Nat.le_refl _) _
  have hs1 : W1.heap.size = w.heap.size + 1 := by rw [← hW1]; simp
  have B1 := hid (show BoxF W1 w.heap.size ce by rw [← hW1]; exact BoxF.alloc w ce.toArray 31)
  have HCK := hid (HCK0.out W1)
  have HB1 := hid hB1
  have HCE := hid hce
  have HS1 := hid hs1
  clear hc hB1 hce hs1
  refine (callsIn_wide (n := 3)).1 ?_
  refine callsIn_of_wp_marks Try.func23 rfl trivial ?_ rfl
  simp only [Try.ntmps23, List.size_toArray, List.length_cons, List.length_nil, Nat.reduceAdd, Nat.reduceSub, Array.replicate_succ, Array.replicate_zero, List.push_toArray, List.append_toArray, List.nil_append, List.cons_append]
  cases hok : chainOk c with
  | false =>
    have Hr := hid (show pairsC c = [] by unfold pairsC; rw [if_neg (by simp [hok])])
    gi_wp2_with (first | (refine ⟨trivial, ?_⟩; gi_at_call 12; refine (callsIn_wide.2 HCK.out).mono ?_; rintro e w2 ⟨rfl, b2⟩; rw [hok]; have B2 := B1.out.below b2; have HB2 := hid (HB1.out.trans (b2.mono HB1.out.size)); have B3 := hid (show BoxF ((w2.alloc (.cells #[.slice none 0 0] 44)).alloc (.cells #[.slice none 0 0] 44)) w.heap.size ce from (B2.below ((Below.refl _ _).alloc (Nat.le_refl _) _)).below ((Below.refl _ _).alloc (Nat.le_refl _) _))) | (refine inL_load_box rfl 31 _ rfl w.heap.size ce (by first | exact B1.out.1 | exact B3.out.1) rfl _ Try.underlying31 rfl (by rw [hl]; kernel_rfl) ?_))
    exact ⟨_, results_tmp2 rfl _ _ _, _, _, rfl, by rw [Hr.out]; exact World.ownsRow_nil _ _ _ _, by rw [Hr.out]; exact World.ownsRow_nil _ _ _ _, fun b e => by simp [Value.ownBlock] at e, HB2.out⟩
  | true =>
    gi_wp2_with (first | (refine ⟨trivial, ?_⟩; gi_at_call 12; refine (callsIn_wide.2 HCK.out).mono ?_; rintro e w2 ⟨rfl, b2⟩; rw [hok]; have B2 := B1.out.below b2; have HB2 := hid (HB1.out.trans (b2.mono HB1.out.size)); have B3 := hid (show BoxF ((w2.alloc (.cells #[.slice none 0 0] 44)).alloc (.cells #[.slice none 0 0] 44)) w.heap.size ce from (B2.below ((Below.refl _ _).alloc (Nat.le_refl _) _)).below ((Below.refl _ _).alloc (Nat.le_refl _) _))) | (refine inL_load_box rfl 31 _ rfl w.heap.size ce (by first | exact B1.out.1 | exact B3.out.1) rfl _ Try.underlying31 rfl (by rw [hl]; kernel_rfl) ?_) | (refine ⟨trivial, ?_⟩; gi_at_call 34; refine (callsIn_wide.2 (impl_nodes ce hl _)).mono ?_; rintro e w7 ⟨rfl, rfl⟩))
    clear hW1
    have hok2 := chainOk_eq c HC.out
    rw [hok] at hok2
    have hok3 : inB c.first_ (-1) 15 = true ∧ c.nodes_.all nodeOkI = true := by
      have z := hok2.symm; simp only [Bool.and_eq_true] at z; exact z.1
    have hrd := nodes1_reads Fence.wide 2 trivial rfl (by omega) c HC.out ((plOk_in _).1 hok3.1) (all_links hok3.2) (w2.heap.size + 2) 16
    have hsw : w.heap.size + 1 ≤ w2.heap.size := by have := b2.size; rw [HS1.out] at this; exact this
    have HG := hid (show [] ++ pairsTo c.nodes_ (usedN c.nodes_) c.first_ = pairsC c by unfold pairsC; rw [if_pos hok]; rfl)
    have HL0 := hid (chainOk_link hok)
    obtain ⟨W0, hW0⟩ : ∃ X, ((w2.alloc (.cells #[.slice none 0 0] 44)).alloc (.cells #[.slice none 0 0] 44)).alloc (.cells ce.toArray 31) = X := ⟨_, rfl⟩
    have hs0 : W0.heap.size = w2.heap.size + 3 := by rw [← hW0]; simp
    have hh : W0.heap = ((w2.heap.push (.cells #[.slice none 0 0] 44)).push (.cells #[.slice none 0 0] 44)).push (.cells ce.toArray 31) := by rw [← hW0]; rfl
    have hb3 : Below w2.heap.size w2 W0 := by rw [← hW0]; exact (((Below.refl _ _).alloc (Nat.le_refl _) _).alloc (by simp) _).alloc (by simp; omega) _
    have hk0 := BoxF.ofHeap (w := W0) (b := w2.heap.size) (cs := #[.slice none 0 0]) (t := 44) (by rw [hh]; repeat (first | (refine push_hit _ _ _ ?_; (try simp only [Array.size_push]) <;> omega) | (refine (push_miss _ _ _ ?_).trans ?_; (first | omega | (simp only [Array.size_push]; omega)))))
    have hv0 := BoxF.ofHeap (w := W0) (b := w2.heap.size + 1) (cs := #[.slice none 0 0]) (t := 44) (by rw [hh]; repeat (first | (refine push_hit _ _ _ ?_; (try simp only [Array.size_push]) <;> omega) | (refine (push_miss _ _ _ ?_).trans ?_; (first | omega | (simp only [Array.size_push]; omega)))))
    have hbc := BoxF.ofHeap (w := W0) (b := w2.heap.size + 2) (cs := ce.toArray) (t := 31) (by rw [hh]; repeat (first | (refine push_hit _ _ _ ?_; (try simp only [Array.size_push]) <;> omega) | (refine (push_miss _ _ _ ?_).trans ?_; (first | omega | (simp only [Array.size_push]; omega)))))
    rw [hW0]
    have hB3 := HB2.out.trans (hb3.mono HB2.out.size)
    rw [HCE.out] at hrd
    clear hW0 hb3 hh hok2 hok3 b2 B2 B3
    refine wpIn_over rfl (by omega) (gf := 42) (lb := #[.pointer (some ⟨w2.heap.size + 2, 0, none⟩)]) rfl trivial (enters_of Try.func42 (by kernel_rfl) rfl) hrd (fun _ => rfl)
      (prI c ce w w2.heap.size) (fun _ _ _ => False) ?hI ?hIx ?hP ?h0
      (fun x a' W => ∃ Bx, w2.heap.size + 3 ≤ Bx ∧ W.heap[Bx]? = some (.cells #[.bool (nd c.nodes_ x).used_, .int .i64 (nd c.nodes_ x).key_, .int .i64 (nd c.nodes_ x).value_, .int .i64 (nd c.nodes_ x).next_] 28 (0, 0)) ∧ a' = { tmps := #[.agg ce.toArray, .pointer (some ⟨w.heap.size, 0, none⟩), .slice none 0 0, .slice none 0 0, .pointer (some ⟨w2.heap.size, 0, none⟩), .pointer (some ⟨w2.heap.size + 1, 0, none⟩), undef, .pointer (some ⟨Bx, 0, none⟩), .agg ce.toArray, .bool true, .bool false, .agg ce.toArray, .func (.func 42) #[] #[.pointer (some ⟨w2.heap.size + 2, 0, none⟩)], .int .i64 x, .agg #[.bool (nd c.nodes_ x).used_, .int .i64 (nd c.nodes_ x).key_, .int .i64 (nd c.nodes_ x).value_, .int .i64 (nd c.nodes_ x).next_], undef, undef, undef, undef, undef, undef, undef, undef, undef, undef, undef, undef], defers := [] })
      ?hAx ?assign ?body ?done ?stop
    case hI =>
      rintro pre X Y row ⟨h6, h7, ua, um, uc, va, vm, vc, Z, m, t, h1, h2, h3, h4, h5, h8⟩ hg hr
      rw [hs0] at hr
      unfold prI
      exact ⟨boxF_ng h6 (by omega) hg hr, below_ng h7 (Nat.le_refl _) (by omega) hg hr, ua, um, uc, va, vm, vc, Z, m, t, boxF_ng h1 (by simp) hg hr, boxF_ng h2 (by simp) hg hr, owns_ng h3 hg hr, owns_ng h4 hg hr, h5, h8⟩
    case hIx => exact fun _ _ _ _ _ hs _ _ => hs
    case hP =>
      rintro pre W ⟨h6, h7, ua, um, uc, va, vm, vc, Z, m, t, h1, h2, h3, h4, h5, h8, h9, h10⟩
      exact ⟨h6, by omega⟩
    case h0 =>
      unfold prI
      exact ⟨hbc, hB3, none, 0, 0, none, 0, 0, [], usedN c.nodes_, -1, hk0, hv0, World.ownsRow_nil _ _ _ _, World.ownsRow_nil _ _ _ _, fun b e => by simp [Value.ownBlock] at e, rfl, by have := hu16.out; simpa using this, HL0, HG⟩
    case hAx =>
      rintro x a' _ X Y row ⟨Bx, h1, h2, h3⟩ hg hr
      exact ⟨Bx, h1, (hg.block Bx (Array.getElem?_eq_some_iff.1 h2).1 (fun e => by obtain ⟨_, o, ho, hc⟩ := hr Bx e.symm; rw [h2] at ho; cases ho; cases hc)).trans h2, h3⟩
    case assign =>
      rintro l pre x W K hi hx hK
      have hsW := ((show BoxF W (w2.heap.size + 2) ce from hi.1)).1.1
      have hbn : Below W.heap.size W (W.alloc (.cells #[.bool (nd c.nodes_ x).used_, .int .i64 (nd c.nodes_ x).key_, .int .i64 (nd c.nodes_ x).value_, .int .i64 (nd c.nodes_ x).next_] 28)) := (Below.refl _ _).alloc (Nat.le_refl _) _
      have hxn : BoxF (W.alloc (.cells #[.bool (nd c.nodes_ x).used_, .int .i64 (nd c.nodes_ x).key_, .int .i64 (nd c.nodes_ x).value_, .int .i64 (nd c.nodes_ x).next_] 28)) W.heap.size [.bool (nd c.nodes_ x).used_, .int .i64 (nd c.nodes_ x).key_, .int .i64 (nd c.nodes_ x).value_, .int .i64 (nd c.nodes_ x).next_] := BoxF.alloc W #[.bool (nd c.nodes_ x).used_, .int .i64 (nd c.nodes_ x).key_, .int .i64 (nd c.nodes_ x).value_, .int .i64 (nd c.nodes_ x).next_] 28
      have hK2 := hK _ _ ((KeepsOthers.alloc W (.cells #[.bool (nd c.nodes_ x).used_, .int .i64 (nd c.nodes_ x).key_, .int .i64 (nd c.nodes_ x).value_, .int .i64 (nd c.nodes_ x).next_] 28)).from _) (by obtain ⟨h6, h7, ua, um, uc, va, vm, vc, Z, m, t, h1, h2, h3, h4, h5, h8⟩ := hi; unfold prI; exact ⟨h6.below hbn, h7.trans (hbn.mono h7.size), ua, um, uc, va, vm, vc, Z, m, t, h1.below hbn, h2.below hbn, h3.alloc _, h4.alloc _, h5, h8⟩) ⟨W.heap.size, by omega, World.alloc_heap_new W _, rfl⟩
      have HK2 := hid hK2
      clear hK hK2 hi hbn hxn
      unfold encP
      gi_wp2
      exact HK2.out
    case body =>
      rintro l pre x a' W ⟨h6, h7, ua, um, uc, va, vm, vc, X, m, t, h1, h2, h3, h4, h5, hXl, hXm, hLk, hPr⟩ ⟨Bx, hBx, hbx, rfl⟩ ⟨hx1, hx2⟩
      have k0 := h1.1.2 0 (by simp)
      have k1 := h1.2 0 (by simp)
      have hbf := BoxF.ofHeap hbx
      have n1 := hbf.1.2 1 (by simp)
      have hbne : ∀ a m c, W.ownsRow (w2.heap.size + 3) 3 1 (.slice a m c) X.length ((keysI X).flatMap encI) → ¬ (Value.slice a m c).ownBlock = some Bx := fun a m c hr e => by
        rcases hr.2 with ⟨e9, _⟩ | ⟨g, cap, cur, e9, _, hgb, _⟩
        · rw [e9] at e; simp [Value.ownBlock] at e
        · rw [e9] at e
          obtain rfl : g = Bx := by simpa [Value.ownBlock] using e
          rw [hgb] at hbx; simp at hbx
      simp only [List.getElem?_cons_zero, List.getElem?_cons_succ] at k0 n1
      have HN := hid (nextOf_snoc c.nodes_ c.first_ pre x)
      have hl' := hLk.out
      have hp' := hPr.out
      rw [hx1] at hl' hp'
      obtain ⟨m', hm', _, hl2'⟩ := linkTo_place hl' (by omega)
      subst hm'
      have HL' := hid hl2'
      have HP' := hid (show (X ++ [nd c.nodes_ x]) ++ pairsTo c.nodes_ m' (nd c.nodes_ x).next_ = pairsC c by rw [← hp']; simp [pairsTo])
      have HXL := hid hXl
      have h5 := hid h5
      clear hLk hPr hl' hp' hl2' hx1 hXl
      have hsz := h6.1.1
      gi_wp2_with (gi_at_builtin; refine inL_append_at rfl _ _ 44 rfl (w2.heap.size + 3) 3 j0 (.int .i64 0) 1 8 Try.underlying44 hj hy0 hy1 hy2 rfl (by decide) _ _ _ rfl (h3.alloc _) ⟨W.heap.size, 0, none⟩ 1 [.int .i64 (nd c.nodes_ x).key_] rfl rfl (cell_one_new _ _ _) (by simp [Value.oneCell']) (by unfold maxLen; omega) (by omega) (by simp; omega) ?_)
      intro v4 w4 hown4 hgrow4 hpl4
      obtain ⟨g4, cap4, rfl⟩ := ownsRow_succ hown4
      have hba4 : Below W.heap.size W (W.alloc (.cells #[.int .i64 (nd c.nodes_ x).key_] 3)) := (Below.refl _ _).alloc (Nat.le_refl _) _
      have hlow4 : ∀ b, b < w2.heap.size + 3 → ¬ (Value.slice ua um uc).ownBlock = some b := fun b hb e => by have := World.ownsRow.lt h3 b e; omega
      have akk4 : KeepsFrom W0.heap.size W w4 := ((KeepsOthers.alloc W _).trans (KeepsOthers.of_grownBy hgrow4 fun jj oo ej hjj => by
        rcases (h3.alloc (.cells #[.int .i64 (nd c.nodes_ x).key_] 3)).2 with ⟨e9, _⟩ | ⟨g, cap, cur, e9, _, hgb, _⟩
        · rw [e9] at ej; simp [Value.ownBlock] at ej
        · rw [e9] at ej
          obtain rfl : g = jj := by simpa [Value.ownBlock] using ej
          rw [hgb] at hjj; cases hjj; rfl)).from _
      have a6 := ((h6.below hba4).grown hgrow4 (hlow4 _ (by omega)))
      have a1 := ((h1.below hba4).grown hgrow4 (hlow4 _ (by omega)))
      have a2 := ((h2.below hba4).grown hgrow4 (hlow4 _ (by omega)))
      have abx := ((hbf.below hba4).grown hgrow4 (hbne _ _ _ h3))
      have a7 := ((h7.trans (hba4.mono h7.size)).grown hgrow4 (by have := h7.size; simp; omega) (fun b e => by have := World.ownsRow.lt h3 b e; omega))
      have a4 := (h4.alloc (.cells #[.int .i64 (nd c.nodes_ x).key_] 3)).kept hgrow4 (by
        cases hv : (Value.slice va vm vc).ownBlock with
        | none => exact .inl rfl
        | some b => exact .inr fun e => h5.out b e.symm hv)
      have hvlt := fun b hb => (World.ownsRow.lt h4 b hb).2
      have hap : ∀ b, (Value.slice (some ⟨g4, 0, none⟩) (X.length + 1) cap4).ownBlock = some b → ¬ (Value.slice va vm vc).ownBlock = some b := fun b hb e => by
        rcases hpl4 b hb with e9 | e9
        · exact h5.out b e9 e
        · have := hvlt b e; omega
      have a10 := a1.1.2 0 (by simp)
      have a11 := a1.2 0 (by simp)
      have n2 := abx.1.2 2 (by simp)
      simp only [List.getElem?_cons_zero, List.getElem?_cons_succ] at a10 n2
      obtain ⟨W5, hW5⟩ : ∃ Y, w4.setCell ⟨w2.heap.size, 0, none⟩ (.slice (some ⟨g4, 0, none⟩) (X.length + 1) cap4) = Y := ⟨_, rfl⟩
      have s6 := (show BoxF W5 (w2.heap.size + 2) ce by rw [← hW5]; exact a6.other _ _ (by show ¬ w2.heap.size = w2.heap.size + 2; omega))
      have s1 := (show BoxF W5 w2.heap.size [.slice (some ⟨g4, 0, none⟩) (X.length + 1) cap4] by rw [← hW5]; simpa using a1.set 0 (by simp) (.slice (some ⟨g4, 0, none⟩) (X.length + 1) cap4))
      have s2 := (show BoxF W5 (w2.heap.size + 1) [.slice va vm vc] by rw [← hW5]; exact a2.other _ _ (by show ¬ w2.heap.size = w2.heap.size + 1; omega))
      have s7 := (show Below w.heap.size w W5 by rw [← hW5]; exact a7.setCell (p := ⟨w2.heap.size, 0, none⟩) (by show w.heap.size ≤ w2.heap.size; omega) _)
      have s3 := (show W5.ownsRow (w2.heap.size + 3) 3 1 (.slice (some ⟨g4, 0, none⟩) (X.length + 1) cap4) (X.length + 1) ((keysI X).flatMap encI ++ [.int .i64 (nd c.nodes_ x).key_]) by rw [← hW5]; exact owns_lo hown4 (grownBy_setCell _ ⟨w2.heap.size, 0, none⟩ _) (fun r e => by have := Option.some.inj e; have e2 : w2.heap.size = r := this; omega))
      have s4 := (show W5.ownsRow (w2.heap.size + 3) 3 1 (.slice va vm vc) X.length ((valsI X).flatMap encI) by rw [← hW5]; exact owns_lo a4 (grownBy_setCell _ ⟨w2.heap.size, 0, none⟩ _) (fun r e => by have := Option.some.inj e; have e2 : w2.heap.size = r := this; omega))
      have hBx2 : Bx ≠ w2.heap.size := by omega
      have m2 := (show W5.cell? ⟨Bx, 2, none⟩ = some (.int .i64 (nd c.nodes_ x).value_) by rw [← hW5]; exact ((abx.other ⟨w2.heap.size, 0, none⟩ _ (by show ¬ w2.heap.size = Bx; omega)).1.2 2 (by simp)))
      have m0 := s2.1.2 0 (by simp)
      have m1 := s2.2 0 (by simp)
      have skk := (show KeepsFrom W0.heap.size W W5 by rw [← hW5]; exact akk4.trans ((KeepsOthers.setCell _ _ _).from _))
      simp only [List.getElem?_cons_zero, List.getElem?_cons_succ] at m0 m2
      have hsz5 := s6.1.1
      have HAP := hid hap
      clear a6 a1 a2 a7 a4 hvlt hap hown4 hgrow4 hpl4 hba4 hlow4 akk4 h1 h2 h3 h4 h5 h6 h7 hbf hbne k0 k1 n1 hsz hbx abx
      gi_wp2_with (gi_at_builtin; refine inL_append_at rfl _ _ 44 rfl (w2.heap.size + 3) 3 j0 (.int .i64 0) 1 8 Try.underlying44 hj hy0 hy1 hy2 rfl (by decide) _ _ _ rfl (s4.alloc _) ⟨W5.heap.size, 0, none⟩ 1 [.int .i64 (nd c.nodes_ x).value_] rfl rfl (cell_one_new _ _ _) (by simp [Value.oneCell']) (by unfold maxLen; omega) (by omega) (by simp; omega) ?_)
      intro v6 w6 hown6 hgrow6 hpl6
      obtain ⟨g6, cap6, rfl⟩ := ownsRow_succ hown6
      have hba6 : Below W5.heap.size W5 (W5.alloc (.cells #[.int .i64 (nd c.nodes_ x).value_] 3)) := (Below.refl _ _).alloc (Nat.le_refl _) _
      have hlow6 : ∀ b, b < w2.heap.size + 3 → ¬ (Value.slice va vm vc).ownBlock = some b := fun b hb e => by have := World.ownsRow.lt s4 b e; omega
      have akk6 : KeepsFrom W0.heap.size W5 w6 := ((KeepsOthers.alloc W5 _).trans (KeepsOthers.of_grownBy hgrow6 fun jj oo ej hjj => by
        rcases (s4.alloc (.cells #[.int .i64 (nd c.nodes_ x).value_] 3)).2 with ⟨e9, _⟩ | ⟨g, cap, cur, e9, _, hgb, _⟩
        · rw [e9] at ej; simp [Value.ownBlock] at ej
        · rw [e9] at ej
          obtain rfl : g = jj := by simpa [Value.ownBlock] using ej
          rw [hgb] at hjj; cases hjj; rfl)).from _
      have b6 := ((s6.below hba6).grown hgrow6 (hlow6 _ (by omega)))
      have b1 := ((s1.below hba6).grown hgrow6 (hlow6 _ (by omega)))
      have b2 := ((s2.below hba6).grown hgrow6 (hlow6 _ (by omega)))
      have b7 := ((s7.trans (hba6.mono s7.size)).grown hgrow6 (by have := s7.size; simp; omega) (fun b e => by have := World.ownsRow.lt s4 b e; omega))
      have b3 := (s3.alloc (.cells #[.int .i64 (nd c.nodes_ x).value_] 3)).kept hgrow6 (by
        cases hv : (Value.slice (some ⟨g4, 0, none⟩) (X.length + 1) cap4).ownBlock with
        | none => exact .inl rfl
        | some b => exact .inr fun e => HAP.out b hv e.symm)
      have hult := fun b hb => (World.ownsRow.lt s3 b hb).2
      have hap : ∀ b, (Value.slice (some ⟨g4, 0, none⟩) (X.length + 1) cap4).ownBlock = some b → ¬ (Value.slice (some ⟨g6, 0, none⟩) (X.length + 1) cap6).ownBlock = some b := fun b hb e => by
        rcases hpl6 b e with e9 | e9
        · exact HAP.out b hb e9
        · have := hult b hb; omega
      have b20 := b2.1.2 0 (by simp)
      have b21 := b2.2 0 (by simp)
      simp only [List.getElem?_cons_zero] at b20
      have b6 := hid b6
      have b1 := hid b1
      have b2 := hid b2
      have b7 := hid b7
      have b3 := hid b3
      have hap := hid hap
      have HO := hid hown6
      have skk := hid (skk.trans akk6)
      clear hult hown6 hgrow6 hpl6 hba6 hlow6 akk6 s1 s2 s3 s4 s6 s7 HAP m0 m1 m2 hW5 hsz5
      gi_wp2
      refine ⟨skk.out.trans ((KeepsOthers.setCell _ _ _).from _), trivial, ?_⟩
      unfold prI
      exact ⟨b6.out.other _ _ (by show ¬ w2.heap.size + 1 = w2.heap.size + 2; omega), b7.out.setCell (p := ⟨w2.heap.size + 1, 0, none⟩) (by show w.heap.size ≤ w2.heap.size + 1; omega) _, _, _, _, _, _, _, X ++ [nd c.nodes_ x], m', x, b1.out.other _ _ (by show ¬ w2.heap.size + 1 = w2.heap.size; omega), by simpa using b2.out.set 0 (by simp) _, by rw [keysI_snoc, encI_snocC, List.length_append]; exact owns_lo b3.out (grownBy_setCell _ ⟨w2.heap.size + 1, 0, none⟩ _) (fun r e => by have := Option.some.inj e; have e2 : w2.heap.size + 1 = r := this; omega), by rw [valsI_snoc, encI_snocC, List.length_append]; exact owns_lo HO.out (grownBy_setCell _ ⟨w2.heap.size + 1, 0, none⟩ _) (fun r e => by have := Option.some.inj e; have e2 : w2.heap.size + 1 = r := this; omega), hap.out, by rw [List.length_append, List.length_append, HXL.out]; rfl, by rw [List.length_append]; simp; omega, hid (by rw [HN.out]; exact HL'.out), hid (by rw [HN.out]; exact HP'.out)⟩
    case done =>
      rintro D xs W hD hS ⟨h6, h7, ua, um, uc, va, vm, vc, X, m, t, h1, h2, h3, h4, h5, hXl, hXm, hLk, hPr⟩ hK
      rw [hs0] at hD
      have hm0 : m = 0 := by
        cases m with
        | zero => rfl
        | succ m => have z := hLk.out; rw [hS] at z; simp [linkTo, inB] at z
      subst hm0
      have Hr := hid (show pairsC c = X by rw [← hPr.out]; simp [pairsTo])
      have k0 := h1.1.2 0 (by simp)
      have v0 := h2.1.2 0 (by simp)
      simp only [List.getElem?_cons_zero] at k0 v0
      clear hLk hPr hS h1 h2 h6 hXm hXl
      gi_wp2
      gi_region
      all_goals gi_wp2
      all_goals refine ⟨by simp, .inl ⟨_, _, rfl, run_takeDeferred (w := W.drew) hK, ?_⟩⟩
      all_goals exact ⟨.tuple #[.slice ua um uc, .slice va vm vc], by simp [results, Try.results23, go_sem], .slice ua um uc, .slice va vm vc, rfl, by rw [Hr.out, keysI_len]; exact owns_mono (ownsRow_putObj (W := W.drew) h3 _ hK rfl) (by omega), by rw [Hr.out, valsI_len]; exact owns_mono (ownsRow_putObj (W := W.drew) h4 _ hK rfl) (by omega), h5, (below_drewN h7 1).trans (belowK_b (w := w) (Nat.le_refl _) W.drew D _ _ (by omega) hK rfl rfl)⟩
    case stop =>
      rintro D cd pre W _ h _
      exact h.elim
end Go.Proofs.Ytadbgfaboafkeaa
