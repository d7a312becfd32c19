/- Chapter 12's program: a list in the order of a number. -/
import Derived.Test.YtbbdchlabdilcaaS12q
import Derived.Test.YtbbdchlabdilcaaI12d
namespace Go.Own
open Go.RowKit
theorem take_flatMapB {α : Type} (f : α → List Value) (sz : Nat) (hsz : ∀ x, (f x).length = sz) : ∀ (xs : List α) (p : Nat), (xs.flatMap f).take (p * sz) = (xs.take p).flatMap f
  | xs, 0 => by simp
  | [], p+1 => by simp
  | x :: xs, p+1 => by
    have e : (p + 1) * sz = sz + p * sz := by rw [Nat.add_mul]; omega
    rw [List.flatMap_cons, List.take_succ_cons, List.flatMap_cons, e, List.take_append, hsz x, show sz + p * sz - sz = p * sz by omega, take_flatMapB f sz hsz xs p]
    rw [List.take_of_length_le (by rw [hsz x]; omega)]
theorem owns_take {w : World} {base e sz n : Nat} {a : Option Addr} {cap : Nat} {cs : List Value} (h : w.ownsRow base e sz (.slice a n cap) n cs) (hn : 0 < n) (k : Nat) (hk : k ≤ n) : w.ownsRow base e sz (.slice a k cap) k (cs.take (k * sz)) := by
  have hks : k * sz ≤ n * sz := Nat.mul_le_mul_right sz hk
  obtain ⟨hl, h⟩ := h
  refine ⟨by rw [List.length_take]; omega, ?_⟩
  rcases h with ⟨h, h0⟩ | ⟨g, cap', cur, hv, hb, hg, hnc, hm, hcs, ht⟩
  · omega
  · obtain ⟨rfl, rfl⟩ : a = some ⟨g, 0, none⟩ ∧ cap = cap' := by simpa using hv
    exact .inr ⟨g, cap, cur, rfl, hb, hg, by omega, hm, hcs, by rw [← ht, List.take_take, Nat.min_eq_left hks]⟩
theorem slice_tail {P : Program} {t e : TypeId} {ti : TypeInfo} {sz : Nat} (ht : P.underlying t = some (.slice e)) (hi : P.info? e = some ti) (hs : ti.size = sz) {w : World} {base g n cap : Nat} {cs : List Value} (h : w.ownsRow base e sz (.slice (some ⟨g, 0, none⟩) n cap) n cs) (i : Nat) (hin : i ≤ n) (hnc : n ≤ cap) :
    ∃ ad, (∀ w', (Instr.slice t (.slice (some ⟨g, 0, none⟩) n cap) (some (.int .i64 (i : Int))) none none).run P w' = .ok (.slice (some ad) (n - i) (cap - i)) w') ∧ ∀ j v, (cs.drop (i * sz))[j]? = some v → w.cell? (ad.add j) = some v := by
  refine ⟨if cap = i then ⟨g, 0, none⟩ else ⟨g, i * sz, none⟩, fun w' => ?_, fun j v hj => ?_⟩
  · have e1 : (0 : Int) ≤ (i : Int) := by omega
    have e2 : (i : Int) ≤ (n : Int) := by omega
    simp [Instr.slice, run_underlying ht, Instr.sliceBounds, Instr.sliceBound, asIntOf, sizeOf, typeInfo, hi, hs]
    by_cases e : cap = i
    · subst e; simp; omega
    · have e9 : ¬ i = cap := fun h => e h.symm
      simp [e, e9, Addr.add_lit]; omega
  · have hl := h.1
    have hj2 : j < (cs.drop (i * sz)).length := by
      rcases Nat.lt_or_ge j (cs.drop (i * sz)).length with h9 | h9
      · exact h9
      · rw [List.getElem?_eq_none h9] at hj; cases hj
    rw [List.length_drop, hl] at hj2
    have hne : ¬ cap = i := fun e9 => by
      have : i = n := by omega
      subst this; omega
    rw [if_neg hne, Addr.add_lit, h.cellAt (i * sz + j) (by omega), ← hj, List.getElem?_drop]
end Go.Own
namespace Go.Proofs.Ytbbdchlabdilcaa
set_option maxRecDepth 100000
open Go.RowKit Go.Proofs Go.Own Go.Ord
open Go Go.BigFrame
set_option linter.unusedVariables false
set_option linter.unusedSimpArgs false
theorem map_erase {α β : Type} (f : α → β) : ∀ (xs : List α) (i : Nat), (xs.eraseIdx i).map f = (xs.map f).eraseIdx i
  | [], _ => by simp
  | _ :: _, 0 => rfl
  | x :: xs, i+1 => by
    show f x :: (xs.eraseIdx i).map f = f x :: (xs.map f).eraseIdx i
    rw [map_erase f xs i]
theorem ordN_map {α β : Type} (f : α → β) : ∀ (n : Nat) (xs : List α) (q : Nat), (ordN n xs q).map f = ordN n (xs.map f) q
  | 0, _, _ => rfl
  | n+1, xs, q => by
    unfold ordN
    rw [List.getElem?_map]
    cases h : xs[q % (n+1)]? with
    | none => rfl
    | some x =>
      show f x :: (ordN n (xs.eraseIdx (q % (n+1))) (q / (n+1))).map f = f x :: ordN n ((xs.map f).eraseIdx (q % (n+1))) (q / (n+1))
      rw [ordN_map f n, map_erase]
theorem ordN_mem {α : Type} : ∀ (n : Nat) (xs : List α) (q : Nat), ∀ x ∈ ordN n xs q, x ∈ xs
  | 0, _, _, x, h => by cases h
  | n+1, xs, q, x, h => by
    unfold ordN at h
    cases e : xs[q % (n+1)]? with
    | none => rw [e] at h; cases h
    | some y =>
      rw [e] at h
      rcases List.mem_cons.1 h with rfl | h
      · exact List.mem_of_getElem? e
      · exact List.mem_of_mem_eraseIdx (ordN_mem n _ _ x h)
theorem ordN_len {α : Type} : ∀ (n : Nat) (xs : List α) (q : Nat), xs.length = n → (ordN n xs q).length = n
  | 0, _, _, _ => rfl
  | n+1, xs, q, h => by
    have hlt : q % (n+1) < xs.length := by rw [h]; exact Nat.mod_lt _ (Nat.succ_pos n)
    unfold ordN
    rw [List.getElem?_eq_getElem hlt]
    show (ordN n (xs.eraseIdx (q % (n+1))) (q / (n+1))).length + 1 = n + 1
    rw [ordN_len n _ _ (eraseIdx_len xs n _ h (by omega))]
theorem ordN_step {α : Type} {n q : Nat} {xs : List α} (h : xs.length = n + 1) (hlt : q % (n+1) < xs.length) : ordN (n+1) xs q = xs[q % (n+1)] :: ordN n (xs.eraseIdx (q % (n+1))) (q / (n+1)) := by
  conv => lhs; unfold ordN
  rw [List.getElem?_eq_getElem hlt]
def lenS : Value → Nat
  | .slice _ n _ => n
  | _ => 0
/-- A descriptor as it lies in a list: with its entries' slice. -/
structure DX where
  d : DescD
  a : Option Addr
  c : Nat
def DX.enc (x : DX) : List Value := [.int .i64 x.d.owner_, .int .i64 x.d.status_, .slice x.a x.d.entries_.length x.c]
theorem dx_of {w : World} : ∀ (css : List (List Value)) (ds : List DescD), css.length = ds.length → (∀ i (h1 : i < css.length) (h2 : i < ds.length), encDesc.rds w css[i] ds[i]) → ∃ P : List DX, P.map DX.d = ds ∧ P.flatMap DX.enc = css.flatten ∧ ∀ x ∈ P, rdsL w (.slice x.a x.d.entries_.length x.c) x.d.entries_
  | [], [], _, _ => ⟨[], rfl, rfl, fun x h => by cases h⟩
  | [], _ :: _, h, _ => by simp at h
  | _ :: _, [], h, _ => by simp at h
  | c :: css, d :: ds, h, he => by
    obtain ⟨P, h1, h2, h3⟩ := dx_of css ds (by simpa using h) (fun i h1 h2 => by have z := he (i+1) (by simpa using h1) (by simpa using h2); simpa using z)
    obtain ⟨v2, e, hr⟩ := he 0 (by simp) (by simp)
    have e : c = [.int .i64 d.owner_, .int .i64 d.status_, v2] := by simpa using e
    have hr : rdsL w v2 d.entries_ := by simpa using hr
    obtain ⟨a, cap, rfl, -, -, -⟩ := rdsL_open hr
    refine ⟨⟨d, a, cap⟩ :: P, by rw [List.map_cons, h1], by rw [List.flatMap_cons, h2, List.flatten_cons, e]; rfl, fun x hx => ?_⟩
    rcases List.mem_cons.1 hx with rfl | hx
    · exact hr
    · exact h3 x hx
theorem dx_list {w : World} {v : Value} {ds : List DescD} (h : rdsL w v ds) : ∃ P : List DX, P.map DX.d = ds ∧ Flat w v P.length 3 (P.flatMap DX.enc) ∧ ∀ x ∈ P, rdsL w (.slice x.a x.d.entries_.length x.c) x.d.entries_ := by
  obtain ⟨v', css, e, hl, hf, he⟩ := h
  obtain rfl : v = v' := by simpa using e
  obtain ⟨P, h1, h2, h3⟩ := dx_of css ds hl he
  have hlen : P.length = ds.length := by rw [← h1, List.length_map]
  refine ⟨P, h1, ?_, h3⟩
  rw [h2, hlen]; exact hf
theorem dx_one (x : DX) : ∀ c ∈ DX.enc x, c.oneCell' = true := by
  intro c hc
  simp [DX.enc] at hc
  rcases hc with rfl | rfl | rfl <;> rfl
theorem dx_all (xs : List DX) : ∀ c ∈ xs.flatMap DX.enc, c.oneCell' = true := oneCell_enc dx_one xs
set_option maxHeartbeats 8000000 in
theorem impl_ordered0 (P : List DX) (q : Nat) (a1 : Option Addr) (cap1 : Nat) (w : World) (h : Flat w (.slice a1 P.length cap1) P.length 3 (P.flatMap DX.enc)) (hP : P.length ≤ 6) (hq : q ≤ 1000) :
    Calls Try.prog 30 #[.slice a1 P.length cap1, .int .i64 (q : Int)] w fun e w' => ∃ ua uc, e = .returned (.slice ua P.length uc) ∧ w'.ownsRow w.heap.size 45 3 (.slice ua P.length uc) P.length ((ordN P.length P q).flatMap DX.enc) ∧ Below w.heap.size w w' := by
  obtain ⟨i0, hi, hz0, hz1, hz2⟩ := info_parts infoDesc
  have hone := hid (dx_all P)
  have H := hid h
  clear h
  go_enter Try.func30, Try.ntmps30
  go_wp2_with (at_builtin; refine wpList_append_flat rfl _ _ 28 rfl w.heap.size 45 i0 (.agg #[.int .i64 0, .int .i64 0, .slice none 0 0]) 3 40 Try.underlying28 hi hz0 hz1 hz2 rfl (by decide) _ _ _ rfl (World.ownsRow_nil w w.heap.size 45 3) _ _ _ rfl H.out hone.out (by unfold maxLen; omega) (by omega) (by simp) ?_)
  intro v1 w1 ho hg
  have hB1 : Below w.heap.size w w1 := below_grown hg (Nat.le_refl _) (by intro k hk; simp [Value.ownBlock] at hk)
  obtain ⟨al, cl, rfl, hcl1, hcl2⟩ := owns_form ho
  have HO := hid ho
  clear ho hg
  go_wp2
  go_loopw [1, 5, 6] (fun nu le th wr => ∃ (r : Nat) (X Y : List DX) (al : Option Addr) (cl : Nat) (ua : Option Addr) (uc : Nat), nu = .int .i64 (r : Int) ∧ le = .slice al X.length cl ∧ th = .slice ua Y.length uc ∧ r ≤ 1000 ∧ Hid (X.length + Y.length = P.length) ∧ Same (Y ++ ordN X.length X r) (ordN P.length P q) ∧ Hid (wr.ownsRow w.heap.size 45 3 (.slice al X.length cl) X.length (X.flatMap DX.enc)) ∧ Hid (wr.ownsRow w.heap.size 45 3 (.slice ua Y.length uc) Y.length (Y.flatMap DX.enc)) ∧ Hid (∀ b, (Value.slice ua Y.length uc).ownBlock = some b → ¬ (Value.slice al X.length cl).ownBlock = some b) ∧ Below w.heap.size w wr) (fun _ le _ _ => lenS le)
  case atStart => exact ⟨q, P, [], al, cl, none, 0, rfl, rfl, rfl, hq, hid (by simp), .mk (by simp), HO, hid ⟨rfl, .inl ⟨rfl, rfl⟩⟩, hid (fun b hb => by cases hb), hB1⟩
  case round =>
    clear HO hB1 hcl1 hcl2
    obtain ⟨r, X, Y, al, cl, ua, uc, rfl, rfl, rfl, hr, hXY, hS, HX, HY, HA, hB⟩ := hrel
    by_cases hlt : 0 < X.length
    · obtain ⟨m, hm⟩ : ∃ m, X.length = m + 1 := ⟨X.length - 1, by omega⟩
      have HM := hid hm
      obtain ⟨gl, gc, hv, hgc1, hgc2, hgl1, hgl2, hcell, -⟩ := owns_at HX.out hlt
      obtain ⟨rfl, rfl⟩ : al = some ⟨gl, 0, none⟩ ∧ cl = gc := by simpa using hv
      obtain ⟨p, hp⟩ : ∃ p, r % (m + 1) = p := ⟨_, rfl⟩
      have hpl : p < X.length := by rw [hm, ← hp]; exact Nat.mod_lt _ (Nat.succ_pos m)
      have Hst := hid (show ordN (m+1) X r = X[p] :: ordN m (X.eraseIdx p) (r / (m+1)) by subst hp; exact ordN_step hm hpl)
      have hq1 : (r : Int) % ((m + 1 : Nat) : Int) = (p : Int) := by rw [← hp]; exact (Int.natCast_emod r (m+1)).symm
      have hq2 : (r : Int) / ((m + 1 : Nat) : Int) = ((r / (m + 1) : Nat) : Int) := (Int.natCast_ediv r (m+1)).symm
      have hrd : r / (m + 1) ≤ 1000 := Nat.le_trans (Nat.div_le_self _ _) hr
      have hp0 : (0 : Int) ≤ (p : Int) := by omega
      have hpi : (p : Int) < (X.length : Int) := by omega
      have hr1 : (r : Int) % (X.length : Int) = (p : Int) := by rw [hm]; exact hq1
      have hr2 : (r : Int) / (X.length : Int) = ((r / (m + 1) : Nat) : Int) := by rw [hm]; exact hq2
      have Hfl := hid (fun j (hj : j < 3) => show wr.cell? ⟨gl, p * 3 + j, none⟩ = (DX.enc X[p])[j]? by rw [hcell (p * 3 + j) (by omega)]; exact flatMap_get DX.enc 3 (fun _ => rfl) X p hpl j hj)
      have d0 : wr.cell? ⟨gl, p * 3, none⟩ = some (.int .i64 X[p].d.owner_) := Hfl.out 0 (by omega)
      have d1 : wr.cell? ⟨gl, p * 3 + 1, none⟩ = some (.int .i64 X[p].d.status_) := Hfl.out 1 (by omega)
      have d2 : wr.cell? ⟨gl, p * 3 + 2, none⟩ = some (.slice X[p].a X[p].d.entries_.length X[p].c) := Hfl.out 2 (by omega)
      have HE := hid (show DX.enc X[p] = [.int .i64 X[p].d.owner_, .int .i64 X[p].d.status_, .slice X[p].a X[p].d.entries_.length X[p].c] from rfl)
      have h1 := hid (dx_one X[p])
      have HXY := hXY.out
      clear hq1 hq2 hm hp hcell Hfl
      obtain ⟨rq, hrq⟩ : ∃ y, r / (m + 1) = y := ⟨_, rfl⟩
      rw [hrq] at hr2 hrd Hst
      clear hrq
      obtain ⟨x, hx⟩ : ∃ x, X[p] = x := ⟨_, rfl⟩
      rw [hx] at d0 d1 d2 HE h1 Hst
      obtain ⟨⟨ow, st, es⟩, xa, xc⟩ := x
      dsimp only at d0 d1 d2 HE
      have hXl : X.length ≤ 6 := by omega
      have hYl : Y.length ≤ 6 := by omega
      clear HXY
      obtain ⟨L3, hL3⟩ : ∃ Z, wr.alloc (.cells #[.int .i64 ow, .int .i64 st, .slice xa es.length xc] 45) = Z := ⟨_, rfl⟩
      have b3 : Below wr.heap.size wr L3 := by rw [← hL3]; exact (Below.refl _ _).alloc (Nat.le_refl _) _
      have hl3 : Flat L3 (.slice (some ⟨wr.heap.size, 0, none⟩) 1 1) 1 3 [.int .i64 ow, .int .i64 st, .slice xa es.length xc] := by rw [← hL3]; exact Flat.of_owns (owns_litN wr 45 3 1 #[.int .i64 ow, .int .i64 st, .slice xa es.length xc] 0 (Nat.zero_le _) rfl (by decide))
      have HY3 := owns_below HY.out b3
      have HX3 := hid (owns_below HX.out b3)
      have hB3 := hB.trans (b3.mono hB.size)
      have h19 : ∀ c ∈ [Value.int .i64 ow, .int .i64 st, .slice xa es.length xc], c.oneCell' = true := h1.out
      have hbs := hB3.size
      go_wp2_with (at_builtin; refine wpList_append_at rfl _ _ 28 rfl w.heap.size 45 i0 (.agg #[.int .i64 0, .int .i64 0, .slice none 0 0]) 3 40 Try.underlying28 hi hz0 hz1 hz2 rfl (by decide) _ _ _ rfl HY3 _ 1 _ rfl hl3 (by decide) h19 (by unfold maxLen; omega) (by omega) hbs ?_)
      intro v8 w8 o8 g8 p8
      have hls : L3.heap.size = wr.heap.size + 1 := by rw [← hL3]; simp
      obtain ⟨ua8, uc8, rfl, -, -⟩ := owns_form o8
      have HA9 := hid (fun b (hb : (Value.slice ua8 (Y.length + 1) uc8).ownBlock = some b) => show ¬ b = gl from by
        rcases p8 b hb with e | e
        · intro h9; subst h9; exact HA.out b e rfl
        · omega)
      have HX8 := hid (owns_same HX3.out fun b hb => g8.block b (World.ownsRow.lt HX3.out b hb).2 (fun e => HA.out b e.symm hb))
      have O8 := hid o8
      have hB8 := hB3.trans (below_grown g8 hbs fun b e => by have := (World.ownsRow.lt HY3 b e).1; omega)
      clear hls o8 g8 p8 HY3 hl3 h19 hL3 HX3 HY b3
      have hXc : X.length ≤ cl := hgc1
      obtain ⟨ad, hrun, hsrc⟩ := slice_tail Try.underlying28 hi hz1 HX8.out (p+1) (by omega) hXc
      rw [show ((p + 1 : Nat) : Int) = (p : Int) + 1 by omega] at hrun
      have hT8 := owns_take (owns_below HX8.out (Below.refl _ _).drew) hlt p (by omega)
      have hpc : (p : Int) ≤ (cl : Int) := by omega
      have hln : ((X.flatMap DX.enc).drop ((p+1) * 3)).length = (X.length - (p+1)) * 3 := by rw [List.length_drop, flatMap_len DX.enc 3 (fun _ => rfl), Nat.sub_mul]
      have hone2 : ∀ u ∈ (X.flatMap DX.enc).drop ((p+1) * 3), u.oneCell' = true := fun u hu => dx_all X u (List.mem_of_mem_drop hu)
      have hroom : p + (X.length - (p+1)) ≤ cl := by omega
      have hcat := hid (show (X.flatMap DX.enc).take (p * 3) ++ (X.flatMap DX.enc).drop ((p+1) * 3) = (X.eraseIdx p).flatMap DX.enc by
        rw [take_flatMapB DX.enc 3 (fun _ => rfl), drop_flatMap DX.enc 3 (fun _ => rfl), ← List.flatMap_append, List.eraseIdx_eq_take_drop_succ])
      have hel := hid (show (X.eraseIdx p).length = p + (X.length - (p+1)) by rw [List.length_eraseIdx, if_pos hpl]; omega)
      have hw1 : IntKind.i64.wrap ((p : Int) + 1) = (p : Int) + 1 := by rw [IntKind.wrap_i64]; omega
      go_wp2
      go_region_law (go_loud (refine step_append_fits rfl (.tmp 30) (.tmp 34) 28 rfl w.heap.size 45 i0 3 Try.underlying28 hi hz1 gl p cl ((X.flatMap DX.enc).take (p * 3)) (by simp [Act.eval, Act.put]) hT8 ad (X.length - (p+1)) (cl - (p+1)) ((X.flatMap DX.enc).drop ((p+1) * 3)) (by simp [Act.eval, Act.put]) hln (fun j u h => hsrc j u h) hone2 hroom ?_; intro w9 o9 g9))
      have hlX : (X.eraseIdx p).length + (Y.length + 1) = P.length := by rw [hel.out]; have := hXY.out; omega
      have HX9 := hid (show w9.ownsRow w.heap.size 45 3 (.slice (some ⟨gl, 0, none⟩) (X.eraseIdx p).length cl) (X.eraseIdx p).length ((X.eraseIdx p).flatMap DX.enc) by rw [hel.out, ← hcat.out]; exact o9)
      have hgl8 : gl < w8.heap.size := (World.ownsRow.lt HX8.out gl rfl).2
      have HY9 := hid (show w9.ownsRow w.heap.size 45 3 (.slice ua8 (Y ++ [(⟨⟨ow, st, es⟩, xa, xc⟩ : DX)]).length uc8) (Y ++ [(⟨⟨ow, st, es⟩, xa, xc⟩ : DX)]).length ((Y ++ [(⟨⟨ow, st, es⟩, xa, xc⟩ : DX)]).flatMap DX.enc) by
        rw [List.length_append, List.flatMap_append, List.length_singleton]
        have z := owns_same O8.out (w' := w9) fun b hb => g9.block b (World.ownsRow.lt O8.out b hb).2 (fun e => HA9.out b hb (Option.some.inj e))
        simpa [DX.enc] using z)
      have HA10 := hid (fun b (hb : (Value.slice ua8 (Y ++ [(⟨⟨ow, st, es⟩, xa, xc⟩ : DX)]).length uc8).ownBlock = some b) => show ¬ (Value.slice (some ⟨gl, 0, none⟩) (X.eraseIdx p).length cl).ownBlock = some b from fun h9 => by
        have e : gl = b := Option.some.inj h9
        refine HA9.out b ?_ e.symm
        cases ua8 with
        | none => cases hb
        | some a8 => exact hb)
      have hB9 : Below w.heap.size w w9 := hB8.drew.trans ((below_grown g9 hB8.size fun b e => by have e2 : gl = b := Option.some.inj e; omega))
      have Hel := hid (show (Value.slice (some ⟨gl, 0, none⟩) (p + (X.length - (p+1))) cl) = .slice (some ⟨gl, 0, none⟩) (X.eraseIdx p).length cl by rw [hel.out])
      have Hyl := hid (show Value.slice ua8 (Y.length + 1) uc8 = .slice ua8 (Y ++ [(⟨⟨ow, st, es⟩, xa, xc⟩ : DX)]).length uc8 by rw [List.length_append]; rfl)
      have HlX := hid hlX
      have HS9 := hid (show Same ((Y ++ [(⟨⟨ow, st, es⟩, xa, xc⟩ : DX)]) ++ ordN (X.eraseIdx p).length (X.eraseIdx p) rq) (ordN P.length P q) from .mk (by
        rw [← hS.out, List.append_assoc, HM.out, show (X.eraseIdx p).length = m by rw [hel.out]; have := HM.out; omega, Hst.out]; rfl))
      have hmes : p + (X.length - (p+1)) < X.length := by omega
      clear o9 g9 hlX hS
      go_wp2
      simp only [go_sem, List.getElem_toArray, List.getElem_cons_succ, List.getElem_cons_zero, Act.put, List.setIfInBounds_toArray, List.set_cons_succ, List.set_cons_zero]
      go_roundw
      case rel => exact ⟨rq, X.eraseIdx p, _, some ⟨gl, 0, none⟩, cl, ua8, uc8, rfl, Hel.out, Hyl.out, hrd, hid (by rw [List.length_append]; exact HlX.out), HS9.out, HX9, HY9, HA10, hB9⟩
      case measure => exact hmes
    · have hx0 : X = [] := List.eq_nil_of_length_eq_zero (by omega)
      subst hx0
      have hl9 := hXY.out
      rw [List.length_nil, Nat.zero_add] at hl9
      have hS9 := hid (show ordN P.length P q = Y by rw [← hS.out]; simp [ordN])
      have HYl := hid hl9
      clear hl9
      go_wp2
      go_ret
      exact ⟨ua, uc, by first | rfl | (rw [HYl.out]; rfl), by rw [hS9.out, ← HYl.out]; exact HY.out, hB⟩
end Go.Proofs.Ytbbdchlabdilcaa
