/- Chapter 16's program: values of all buckets in one list; room asked for; doubling. -/
import Derived.Test.YtdgmbcmgjadoiaaI16b
import Derived.Lib.AppendZerosOnto
import Derived.Lib.SliceRun
namespace Go.Own
open Go.RowKit
/-- 'append(s, make([]T, k)...)' where there is room. -/
theorem run_append_room_zeros {P : Program} (w : World) (t tn ty e : TypeId) (i : TypeInfo) (z : Value) (kq kn : IntKind) (ht : P.underlying t = some (.slice e)) (htn : P.underlying tn = some (.int kn)) (hi : P.info? e = some i) (hz : i.zero = some z) (hz1 : z.cells = #[z]) (h1 : z.oneCell' = true) (hs : i.size = 1)
    (g sLen sCap k : Nat) (h0 : 0 < k) (hroom : sLen + k ≤ sCap) (h63 : (k : Int) ≤ 9223372036854775807) (h48 : k * i.bytes ≤ 281474976710656)
    (hc : ∀ j, j < k → (w.cell? ⟨g, sLen + j, none⟩).isSome = true) (hf : ∀ j, j < k → w.frozen? ⟨g, sLen + j, none⟩ = false) :
    (Builtin.append_ #[t, tn] ty #[.slice (some ⟨g, 0, none⟩) sLen sCap, .int kq k]).run P w = .ok (.slice (some ⟨g, 0, none⟩) (sLen + k) sCap) (w.setCells g sLen (List.replicate k z)) := by
  have hk : k ≠ 0 := by omega
  have hw : IntKind.i64.wrap (k : Int) = k := by rw [IntKind.wrap_i64]; omega
  have h48i : ¬ (281474976710656 < (k : Int) * (i.bytes : Int)) := by
    rw [← Int.natCast_mul]
    omega
  have hneg : ¬ ((k : Int) < 0) := by omega
  have hzc : (Builtin.zeroCells z.cells k).toList = List.replicate k z := by
    rw [hz1]
    simp [Builtin.zeroCells]
    apply List.ext_getElem
    · simp
    · intro i h1 h2
      simp [Nat.mod_one]
  have hst := run_storeCells_cells (P := P) g sLen (List.replicate k z) 0 w (by simpa using hc) (by simpa using hf) (by intro v hv'; rw [List.eq_of_mem_replicate hv']; exact h1)
  have hadd : (⟨g, 0, none⟩ : Addr).add sLen = ⟨g, sLen, none⟩ := by rw [Addr.add_lit]; simp
  simp only [Nat.add_zero] at hst
  simp [Builtin.append_, run_underlying ht, run_underlying htn, sizeOf, typeInfo, zeroValue, hi, hz, hs, asInt, asIntOf, hw, hroom, hneg, hk, h48i, hzc, hadd, hst]
/-- The same at a row of the call's own, whatever room there is. -/
theorem append_zeros_own {P : Program} (w : World) (t tn ty e : TypeId) (i : TypeInfo) (z : Value) (kq kn : IntKind) (ht : P.underlying t = some (.slice e)) (htn : P.underlying tn = some (.int kn)) (hi : P.info? e = some i) (hz : i.zero = some z) (hz1 : z.cells = #[z]) (h1 : z.oneCell' = true) (hs : i.size = 1)
    (base g n cap k : Nat) (cs : List Value) (h : w.ownsRow base e 1 (.slice (some ⟨g, 0, none⟩) n cap) n cs) (h0 : 0 < k) (h63 : n + k ≤ 1048576) (hby : i.bytes ≤ 100) :
    ∃ (g' cap' : Nat) (w' : World), (Builtin.append_ #[t, tn] ty #[.slice (some ⟨g, 0, none⟩) n cap, .int kq k]).run P w = .ok (.slice (some ⟨g', 0, none⟩) (n + k) cap') w' ∧
      w'.ownsRow 0 e 1 (.slice (some ⟨g', 0, none⟩) (n + k) cap') (n + k) (cs ++ List.replicate k z) ∧ ChgS (fun b => b = g) w w' ∧ (g' = g ∨ g' = w.heap.size) ∧ g' < w'.heap.size := by
  have hcl := h.1
  obtain ⟨_, h2⟩ := h
  rcases h2 with ⟨h9, h8⟩ | ⟨g9, cap9, cur, hv, hb, hg, hnc, hm, hsz, ht9⟩
  · cases h9
  · obtain ⟨rfl, rfl⟩ : g = g9 ∧ cap = cap9 := by simpa using hv
    have hgl : g < w.heap.size := (Array.getElem?_eq_some_iff.1 hg).1
    have hkb : k * i.bytes ≤ 1048576 * 100 := Nat.mul_le_mul (by omega) hby
    have hnb : (n + k) * i.bytes ≤ 1048576 * 100 := Nat.mul_le_mul h63 hby
    by_cases hroom : n + k ≤ cap
    · refine ⟨g, cap, _, run_append_room_zeros w t tn ty e i z kq kn ht htn hi hz hz1 h1 hs g n cap k h0 hroom (by omega) (by omega) (fun j hj => ?_) (fun j hj => frozen_of_row w g _ _ _ hg), ?_, chg_cells _ _ _, .inl rfl, Nat.lt_of_lt_of_le hgl (chg_cells (g := g) (List.replicate k z) n w).size⟩
      · rw [cell_of_row w g _ _ _ (0, 0) hg, Array.getElem?_eq_getElem (by omega)]; rfl
      · have o1 : w.ownsRow 0 e 1 (.slice (some ⟨g, 0, none⟩) (n + k) cap) (n + k) (cur.toList.take (n + k)) :=
          ⟨by rw [List.length_take, Array.length_toList]; omega, .inr ⟨g, cap, cur, rfl, Nat.zero_le _, hg, hroom, hm, hsz, by rw [Nat.mul_one]⟩⟩
        have o2 := owns_cells (List.replicate k z) n w _ o1 (by simp)
        rw [Nat.mul_one] at ht9
        have e1 : (cur.toList.take (n + k)).take n = cs := by rw [List.take_take, Nat.min_eq_left (by omega), ht9]
        have e2 : (cur.toList.take (n + k)).drop (n + (List.replicate k z).length) = [] := List.drop_eq_nil_of_le (by rw [List.length_take]; simp; omega)
        rw [e1, e2, List.append_nil] at o2
        exact o2
    · have hge := grownCap_ge w (n + k) cap e
      have hle := grownCap_le_maxLen w (n + k) cap e (by unfold maxLen; omega)
      have hold : (Builtin.firstCells i.size n (.slice (some ⟨g, 0, none⟩) n cap)).run P w.drew = .ok cs.toArray w.drew := by
        refine run_firstCells_some w.drew i.size n ⟨g, 0, none⟩ n cap cs (by rw [hs]; omega) (fun j v hj => ?_)
        have hjl : j < cs.length := by
          rcases Nat.lt_or_ge j cs.length with h9 | h9
          · exact h9
          · rw [List.getElem?_eq_none h9] at hj; cases hj
        rw [Addr.add_lit, Nat.zero_add]
        have := cell_of_row w.drew g j cur e (0, 0) hg
        rw [this, ← hj, ← ht9, List.getElem?_take_of_lt (by omega), Array.getElem?_toList]
      have hzs : ∀ q, (Builtin.zeroCells z.cells q).size = q := fun q => by rw [hz1]; simp [Builtin.zeroCells]
      have hzl : (Builtin.zeroCells z.cells k).toList = List.replicate k z := by
        rw [hz1]
        simp [Builtin.zeroCells]
        apply List.ext_getElem
        · simp
        · intro i h1 h2
          simp [Nat.mod_one]
      refine ⟨w.heap.size, _, _, Lib.run_append_grow_zeros w t tn ty e i z kq kn ht htn hi hz (some ⟨g, 0, none⟩) n cap cs hold k h0 (by omega) (by omega) (by omega) (by omega) (growslice_fits (by omega) (by omega)), ?_, ChgS.of_below ((Below.refl _ _).drew.alloc (by simp) _) _, .inr rfl, by simp⟩
      have r := owns_alloc w.drew 0 e (n + k) (grownCap w (n + k) cap e) (cs.toArray ++ Builtin.zeroCells z.cells k ++ Builtin.zeroCells z.cells (grownCap w (n + k) cap e - (n + k))) (Nat.zero_le _) (by omega) hle (by rw [Array.size_append, Array.size_append, hzs, hzs, List.size_toArray]; omega)
      have e9 : (cs.toArray ++ Builtin.zeroCells z.cells k ++ Builtin.zeroCells z.cells (grownCap w (n + k) cap e - (n + k))).toList.take (n + k) = cs ++ List.replicate k z := by
        rw [Array.toList_append, Array.toList_append, hzl, List.take_append_of_le_length (by simp; omega), List.take_of_length_le (by simp; omega)]
      rw [e9] at r
      exact r
theorem step_append_zeros {P : Program} {ops : Array Oper} {o : Oper} {a : Act} {w : World} {K : Act → World → Prop} {Q : Exit → Act → World → Prop} {E : Prop}
    (hg : o.guard = none) (s x : Operand) (t tn : TypeId) (hop : o.op = Op.call { callee := Callee.builtin Builtin.append, args := #[s, x], argTypes := #[t, tn] })
    (v u : Value) (hs : a.eval s = v) (hx : a.eval x = u) (v' : Value) (w' : World) (hrun : (Builtin.append_ #[t, tn] o.type #[v, u]).run P w = .ok v' w') (hK : K (a.put o.dst v') w') :
    if Region.wanted o (yielded ops a.tmps) = true then Oper.wp P o a w K Q else E := by
  have hw : Region.wanted o (yielded ops a.tmps) = true := by simp [Region.wanted, hg]
  rw [if_pos hw]
  unfold Oper.wp
  simp [execOp, hop, resolve, invoke, builtin, hs, hx, hrun, Result.andThen]
  exact hK
end Go.Own
namespace Go.Proofs.Ytdgmbcmgjadoiaa
set_option maxRecDepth 100000
open Go.RowKit Go.Proofs Go.Own
open Go Go.BigFrame
set_option linter.unusedVariables false
set_option linter.unusedSimpArgs false
theorem impl_Grow0 (n : Nat) (hn : n ≤ 1048576) (w : World) :
    Calls Try.prog 77 #[.slice none 0 0, .int .i64 (n : Nat)] w fun e w' => ∃ u, e = .returned u ∧ w'.ownsRow w.heap.size 3 1 u 0 [] ∧ Below w.heap.size w w' := by
  obtain ⟨j0, hj, hy0, hy1, hy2⟩ := info_parts infoInt0
  rcases Nat.eq_zero_or_pos n with h0 | h0
  · subst h0
    refine (Any8.slices_Grow_room Try.growI none 0 0 0 w (by omega) (by omega) (by omega) (by omega)).mono ?_
    rintro e w' ⟨rfl, rfl⟩
    exact ⟨_, rfl, World.ownsRow_nil _ _ _ _, Below.refl _ _⟩
  · refine (Any8.slices_Grow_grow Try.growI j0 (.int .i64 0) hj hy0 (by omega) none 0 0 n [] w (by omega) (by omega) (by rw [hy2]; omega) (by omega) (by simp) (fun _ => rfl) (fun a h => by cases h)).mono ?_
    rintro e w' ⟨rfl, rfl⟩
    obtain ⟨G, hG⟩ : ∃ G, grownCap w (0 + n) 0 3 = G := ⟨_, rfl⟩
    have hge := grownCap_ge w (0 + n) 0 3
    have hle := grownCap_le_maxLen w (0 + n) 0 3 (by unfold maxLen; omega)
    rw [show grownCap w (0 + n) 0 (Try.growI_ren.t 25) = G from hG]
    rw [hG] at hge hle
    have r := owns_alloc w.drew w.heap.size 3 0 G (([] : List Value).toArray ++ Builtin.zeroCells (Value.int .i64 0).cells (0 + n - 0) ++ Builtin.zeroCells (Value.int .i64 0).cells (G - (0 + n))) (Nat.le_refl _) (Nat.zero_le _) hle (by rw [Array.size_append, Array.size_append, zeros_size, zeros_size]; simp; omega)
    exact ⟨_, rfl, r, (Below.refl _ _).drew.alloc (by simp) _⟩
theorem allL_take16 (s : List RowD) (k : Nat) (h : k < s.length) {xs : List Int} (e : s[k].xs_ = xs) : allL (s.take (k+1)) = allL (s.take k) ++ xs := by rw [allL_take s k h, e]
theorem allL_take_le (s : List RowD) (k : Nat) : (allL (s.take k)).length ≤ (allL s).length := by
  rw [allL_len, allL_len]; exact pSum_take_le s k
set_option maxHeartbeats 8000000 in
theorem impl_Concat (s : List RowD) (v : Value) (w : World) (h : rdsL w v s) (hN : (allL s).length ≤ 1048576) :
    Calls Try.prog 62 #[v] w fun e w' => ∃ u, e = .returned u ∧ w'.ownsRow w.heap.size 3 1 u (allL s).length ((allL s).flatMap Go.Own.encI) ∧ Below w.heap.size w w' := by
  obtain ⟨j0, hj, hy0, hy1, hy2⟩ := info_parts infoInt0
  have HR := hid h
  obtain ⟨a, cap, rfl, hl9, hm9, hc⟩ := ss_open h
  have HC := hid hc
  have HTK := hid (fun k (h1 : k < s.length) xs (e : s[k].xs_ = xs) => allL_take16 s k h1 e)
  have HLE := hid (fun k => Nat.le_trans (allL_take_le s k) hN)
  have HAL := hid (show allL (s.take s.length) = allL s by rw [List.take_length])
  have HN := hid hN
  generalize allL s = AL at *
  clear hc h hN
  go_enter Try.func62, Try.ntmps62
  go_wp2
  go_loopw [11, 3] (fun i z wr => ∃ k : Nat, k ≤ s.length ∧ i = .int .i64 k ∧ z = .int .i64 ((allL (s.take k)).length : Nat) ∧ Hid (wr = w)) (fun i _ _ => s.length - (intOf i).toNat)
  case atStart => exact ⟨0, by omega, rfl, rfl, hid rfl⟩
  case round =>
    obtain ⟨k, hk, rfl, rfl, HW⟩ := hrel
    obtain rfl := HW.out.symm
    by_cases hlt : k < s.length
    · obtain ⟨bb, off, b2, c2, xs, hxs, rfl, hbs, c0, hI⟩ := HC.out k hlt
      have Htk := hid (HTK.out k hlt xs hxs)
      have hle := HLE.out k
      have hle2 := HLE.out (k+1)
      obtain ⟨n1, hn1⟩ : ∃ n, (allL (s.take k)).length = n := ⟨_, rfl⟩
      obtain ⟨n2, hn2⟩ : ∃ n, (allL (s.take (k+1))).length = n := ⟨_, rfl⟩
      have hsum : n1 + xs.length = n2 := by rw [← hn1, ← hn2, Htk.out, List.length_append]
      have HN2 := hid hn2
      rw [hn1] at hle ⊢
      rw [hn2] at hle2
      have hwp : IntKind.i64.wrap ((n1 : Int) + (xs.length : Int)) = (n1 : Int) + (xs.length : Int) := by rw [IntKind.wrap_i64]; omega
      have hneg : ¬ ((n1 : Int) + (xs.length : Int) < 0) := by omega
      have HSUM := hid hsum
      clear HC HTK HLE hxs hI hn1 hn2 hsum Htk hle hle2
      go_wp2
      go_roundw
      case rel => exact ⟨k+1, by omega, by go_num, by rw [HN2.out, ← HSUM.out]; go_num, hid (by first | rfl | trivial)⟩
      case measure => simp [intOf]; omega
    · obtain rfl : k = s.length := by omega
      rw [HAL.out]
      have HG := hid (impl_Grow0 AL.length HN.out w)
      clear HLE
      go_wp2_with fail
      refine HG.out.mono ?_
      rintro e w2 ⟨u2, rfl, o2, b2⟩
      obtain ⟨r2, m2, n2, rfl⟩ := owns_form3 o2
      have HO2 := hid o2
      have HB2 := hid b2
      clear o2 b2 HG
      go_wp2
      go_loopw [27, 6] (fun i u wx => ∃ (k : Nat) (ua : Option Addr) (um uc : Nat), k ≤ s.length ∧ i = .int .i64 k ∧ u = .slice ua um uc ∧ Hid (wx.ownsRow w.heap.size 3 1 (.slice ua um uc) (allL (s.take k)).length ((allL (s.take k)).flatMap Go.Own.encI)) ∧ Below w.heap.size w wx) (fun i _ _ => s.length - (intOf i).toNat)
      case atStart => exact ⟨0, _, _, _, by omega, rfl, rfl, HO2, HB2.out⟩
      case round =>
        clear HO2 HB2
        obtain ⟨k, ua, um, uc, hk, rfl, rfl, HO, hB⟩ := hrel
        by_cases hlt : k < s.length
        · obtain ⟨bb, off, b2, c2, xs, hxs, rfl, hbs, c0, hI⟩ := HC.out k hlt
          have q0 := (hB.cell (p := ⟨bb, off + k, none⟩) hbs).trans c0
          have Htk := hid (HTK.out k hlt xs hxs)
          have hI2 := Ints.below hI hB
          have hll : (allL (s.take (k+1))).length ≤ 1048576 := by
            rw [Htk.out, List.length_append]
            have e1 : (allL (s.take k) ++ xs).length ≤ AL.length := by
              rw [← Htk.out, ← HAL.out]
              have := allL_take_le (s.take s.length) (k+1)
              rw [List.take_take, Nat.min_eq_left (by omega)] at this
              exact this
            rw [List.length_append] at e1
            exact Nat.le_trans e1 HN.out
          have hll2 : (allL (s.take k)).length + xs.length ≤ 1048576 := by rw [Htk.out, List.length_append] at hll; exact hll
          have HB := hid hB
          have hone := hid (oneCell_enc oneCell_I xs)
          obtain ⟨Z, hZ⟩ : ∃ Z, allL (s.take k) = Z := ⟨_, rfl⟩
          rw [hZ] at HO Htk hll2
          have hsB := HB.out.size
          clear HC HTK hxs hI c0 hB hll hZ
          go_wp2_with (at_builtin; refine wpList_append_flat rfl _ _ 22 rfl w.heap.size 3 j0 (.int .i64 0) 1 8 Try.underlying22 hj hy0 hy1 hy2 rfl (by decide) _ _ _ rfl HO.out _ _ _ rfl hI2 hone.out (by unfold maxLen; omega) (by omega) (by assumption) ?_)
          intro v4 w4 o4 g4
          obtain ⟨ya, ym, yc, rfl⟩ := owns_form3 o4
          have HB4 := hid (HB.out.trans (below_grown g4 hsB (fun b e => (World.ownsRow.lt HO.out b e).1)))
          have HO4 := hid o4
          clear o4 g4 HO HB hI2
          go_wp2
          go_roundw
          case rel => exact ⟨k+1, _, _, _, by omega, by go_num, rfl, hid (by rw [Htk.out, List.length_append, List.flatMap_append]; exact HO4.out), HB4.out⟩
          case measure => simp [intOf]; omega
        · obtain rfl : k = s.length := by omega
          rw [HAL.out] at HO
          have HB := hid hB
          clear hB HC HTK
          go_wp2
          go_ret
          exact ⟨_, rfl, HO.out, HB.out⟩
end Go.Proofs.Ytdgmbcmgjadoiaa
