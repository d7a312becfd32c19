/- The program's chapter 4: behindTurns. -/
import Derived.Test.YtjcnoogloncbbaaI4u
import Derived.Test.YtjcnoogloncbbaaI4
import Derived.Test.YtjcnoogloncbbaaS4t
namespace Go.Proofs.Ytjcnoogloncbbaa
set_option maxRecDepth 100000
open Go.RowKit Go.Proofs Go.Own
set_option linter.unusedVariables false
set_option linter.unusedSimpArgs false
theorem infoZ : (Try.prog.info? 68).map (fun i => (i.zero, i.size, i.bytes)) = some (some (.complex .f64 0 0), 1, 16) := by kernel_rfl
theorem impl_numberOf_b (a b : Nat) (w : World) :
    Calls Try.prog 41 #[.agg #[.float .f64 a, .float .f64 b]] w fun e w' => e = .returned (.complex .f64 a b) ∧ Below w.heap.size w w' := by
  refine (impl_numberOf a b w).mono ?_
  rintro e w' ⟨rfl, rfl⟩
  exact ⟨rfl, (by repeat (first | exact Below.refl _ _ | refine below_drewN ?_ _ | refine Below.drew ?_ | refine Below.setCell ?_ (by simp; try omega) _ | refine Below.alloc ?_ (by simp; try omega) _))⟩
theorem impl_phasorOf_b (a b : Nat) (w : World) :
    Calls Try.prog 43 #[.complex .f64 a b] w fun e w' => e = .returned (.agg #[.float .f64 a, .float .f64 b]) ∧ Below w.heap.size w w' := by
  refine (impl_phasorOf a b w).mono ?_
  rintro e w' ⟨rfl, rfl⟩
  exact ⟨rfl, (by repeat (first | exact Below.refl _ _ | refine below_drewN ?_ _ | refine Below.drew ?_ | refine Below.setCell ?_ (by simp; try omega) _ | refine Below.alloc ?_ (by simp; try omega) _))⟩
def toZ (o : Phasor) : Z := (o.re_, o.im_)
def ofZ (z : Z) : Phasor := ⟨z.1, z.2⟩
theorem map_toZ (xs : List Phasor) : (xs.map toZ).map rdZ = xs.map Phasor.rd := by rw [List.map_map]; rfl
theorem map_ofZ (zs : List Z) : (zs.map ofZ).map Phasor.rd = zs.map rdZ := by rw [List.map_map]; rfl
def BehindR (T : Option (List C)) (w : World) (e : Ending) (w' : World) : Prop :=
  match T with
  | some L => ∃ (v' : Value) (ys : List Phasor), e = .returned v' ∧ ys.map Phasor.rd = L ∧ w'.ownsRow w.heap.size 29 2 v' ys.length (ys.flatMap Phasor.enc) ∧ Below w.heap.size w w'
  | none => e = .panicked [refusal] ∧ Below w.heap.size w w'
theorem behind_none {T : Option (List C)} {w w' : World} (h : T = none) (hB : Below w.heap.size w w') : BehindR T w (.panicked [refusal]) w' := by subst h; exact ⟨rfl, hB⟩
theorem allC_step4 {xs : List C} {ts : List Turn4} {k : Nat} (h : k < ts.length) : allC xs (ts.drop k) = (turnT xs ts[k]).bind fun ys => allC ys (ts.drop (k+1)) := by
  rw [List.drop_eq_getElem_cons h]; rfl
set_option maxHeartbeats 16000000 in
theorem impl_behindTurns (v : Value) (xs : List Phasor) (u : Value) (ts : List Turn4) (w : World) (h : Phasors w v xs) (hx : xs.length ≤ 1048576) (g : Turn4s w u ts) (ht : ts.length ≤ 1048576) :
    Calls Try.prog 50 #[v, u] w (BehindR (turnAllC (xs.map Phasor.rd) ts) w) := by
  obtain ⟨ad, cap, rfl, hl, hm, hc⟩ := h.open
  obtain ⟨ad2, cap2, rfl, hl2, hm2, hc2⟩ := g.open
  have hlen : xs.length ≤ 9223372036854775807 := by omega
  have hlen2 : ts.length ≤ 9223372036854775807 := by omega
  by_cases h60 : ¬ ((ts.length : Int) ≤ 60)
  · have Hno := hid (show turnAllC (xs.map Phasor.rd) ts = none from if_neg (by omega))
    clear hc hc2
    go_enter Try.func50, Try.ntmps50
    go_wp2_with fail
    refine (impl_must_no _).mono ?_
    rintro e w' ⟨rfl, rfl⟩
    go_wp2
    exact ⟨rfl, behind_none Hno.out (Below.refl _ _)⟩
  have h60' := Decidable.not_not.1 h60
  have Hyes := hid (show turnAllC (xs.map Phasor.rd) ts = allC (xs.map Phasor.rd) ts from if_pos (by omega))
  obtain ⟨i0, hi, hz0, hz1, hz2⟩ := info_parts infoZ
  obtain ⟨i1, hi', hy0, hy1, hy2⟩ := info_parts infoPh0
  have hL : ((xs.map toZ).flatMap encZ).length = xs.length * 1 := by rw [flatMap_len encZ 1 (fun _ => rfl) (xs.map toZ), List.length_map]
  have hlk : ∀ k, (hk : k < xs.length) → ((xs.map toZ).flatMap encZ)[k]? = some (.complex .f64 xs[k].re_ xs[k].im_) := fun k hk => by
    have h1 := flatMap_get encZ 1 (fun _ => rfl) (xs.map toZ) k (by simpa using hk) 0 (by omega)
    rw [Nat.mul_one, Nat.add_zero] at h1
    rw [h1, List.getElem_map]; rfl
  have HC := hid hc
  have HC2 := hid hc2
  clear hc hc2
  go_enter Try.func50, Try.ntmps50
  go_wp2_with fail
  refine (impl_must_yes _).mono ?_
  rintro e w' ⟨rfl, rfl⟩
  go_wp2_with (at_make; refine wpList_make_full _ rfl _ _ 85 rfl (w.heap.size) 68 i0 (.complex .f64 0 0) 1 Try.underlying85 hi hz0 hz1 _ _ _ _ xs.length rfl rfl rfl rfl (by rw [hz2]; omega) (by unfold maxLen; omega) (Nat.le_refl _) ?_)
  intro w1 hown hgrow
  have hB := (Below.refl w.heap.size w).grown hgrow (Nat.le_refl _) (by simp)
  have HL := hid hL
  clear hL
  have hF := Fills.start (l := (xs.map toZ).flatMap encZ) hown HL.out
  clear hown hgrow
  go_wp2
  go_loopw [22] (fun i wr => ∃ k : Nat, k ≤ xs.length ∧ i = .int .i64 k ∧ Fills wr w.heap.size 68 1 (.slice (some ⟨w.heap.size, 0, none⟩) xs.length xs.length) xs.length ((xs.map toZ).flatMap encZ) k ∧ Below w.heap.size w wr) (fun i _ => xs.length - (intOf i).toNat)
  case atStart => exact ⟨0, by omega, rfl, hF, hB⟩
  case round =>
    clear hF hB
    obtain ⟨k, hk, rfl, hF, hB⟩ := hrel
    by_cases hlt : k < xs.length
    · obtain ⟨bb, off, rfl, hbs, c0, c1⟩ := HC.out k hlt
      rw [← hB.cell (p := ⟨bb, off + k * 2, none⟩) hbs] at c0
      rw [← hB.cell (p := ⟨bb, off + k * 2 + 1, none⟩) hbs] at c1
      have hbl : bb < wr.heap.size := Nat.lt_of_lt_of_le hbs hB.size
      clear HC HC2
      go_wp2_with fail
      refine (impl_numberOf_b _ _ _).mono ?_
      rintro e w2 ⟨rfl, hB1⟩
      have hA : Below wr.heap.size wr w2 := below_chain (by repeat (first | exact Below.refl _ _ | refine below_drewN ?_ _ | refine Below.drew ?_ | refine Below.setCell ?_ (by simp; try omega) _ | refine Below.alloc ?_ (by simp; try omega) _)) hB1
      have hF1 := hF.below hA
      obtain ⟨g, hg, hbg, hgs, hcells⟩ := hF1.at HL.out (by rw [HL.out]; omega)
      obtain rfl := (Addr.mk.inj (Option.some.inj hg)).1
      obtain ⟨⟨u0, hu0⟩, hf0⟩ := hcells k (by rw [HL.out]; omega)
      have hF2 := (hF1.store _ (hlk k hlt)).1
      have hB2 := (hB.trans (hA.mono hB.size)).setCell (p := ⟨w.heap.size, k, none⟩) (Nat.le_refl _) (.complex .f64 xs[k].re_ xs[k].im_)
      clear hcells hF hg hF1 hlk
      go_wp2
      go_roundw
      case rel => exact ⟨k+1, by omega, by go_num, hF2, hB2⟩
      case measure => simp [intOf]; omega
    · have o1 := hF.done (by rw [HL.out]; omega)
      clear hF hlk
      have o2 : wr.ownsRow w.heap.size 68 1 (.slice (some ⟨w.heap.size, 0, none⟩) xs.length xs.length) (xs.map toZ).length ((xs.map toZ).flatMap encZ) := by rw [List.length_map]; exact o1
      clear o1 HL
      go_wp2
      go_loopw [35] (fun i wr => ∃ (k : Nat) (zs : List Z), k ≤ ts.length ∧ i = .int .i64 k ∧ zs.length = xs.length ∧ wr.ownsRow w.heap.size 68 1 (.slice (some ⟨w.heap.size, 0, none⟩) xs.length xs.length) zs.length (zs.flatMap encZ) ∧ Same (allC (zs.map rdZ) (ts.drop k)) (allC (xs.map Phasor.rd) ts) ∧ Below w.heap.size w wr) (fun i _ => ts.length - (intOf i).toNat)
      case atStart => exact ⟨0, _, by omega, rfl, by simp, o2, Same.mk (by rw [map_toZ]; rfl), hB⟩
      case round =>
        clear hB o2
        obtain ⟨k, zs, hk, rfl, hz, o, hS, hB⟩ := hrel
        by_cases hlt : k < ts.length
        · obtain ⟨bb, off, rfl, hbs, c0, c1, c2, c3, c4⟩ := HC2.out k hlt
          rw [← hB.cell (p := ⟨bb, off + k * 5, none⟩) hbs] at c0
          rw [← hB.cell (p := ⟨bb, off + k * 5 + 1, none⟩) hbs] at c1
          rw [← hB.cell (p := ⟨bb, off + k * 5 + 2, none⟩) hbs] at c2
          rw [← hB.cell (p := ⟨bb, off + k * 5 + 3, none⟩) hbs] at c3
          rw [← hB.cell (p := ⟨bb, off + k * 5 + 4, none⟩) hbs] at c4
          have hst := hS.out
          rw [allC_step4 hlt] at hst
          clear HC HC2
          go_wp2_with fail
          have hA := (Below.refl wr.heap.size wr).alloc (Nat.le_refl _) (.cells #[.int .i64 ts[k].kind_, .int .i64 ts[k].at_, .int .i64 ts[k].from_, .float .f64 ts[k].z0_, .float .f64 ts[k].z1_] 51)
          have oA := owns_below o hA
          have hBA := hB.trans (hA.mono hB.size)
          rw [← hz]
          rw [← hz] at oA
          refine (impl_turn _ _ zs _ _ _ _ _ _ oA (by omega)).mono ?_
          intro e w3 hR
          rw [hz] at hR oA
          cases hT : turnT (zs.map rdZ) ts[k] with
          | none =>
            have hT' := hT
            unfold turnT Turn4.z at hT'
            rw [hT'] at hR
            obtain ⟨rfl, b3⟩ := hR
            rw [hT] at hst
            have Hno := hid (show turnAllC (xs.map Phasor.rd) ts = none by rw [Hyes.out]; exact hst.symm)
            go_wp2
            exact ⟨rfl, behind_none Hno.out (hBA.trans (b3.mono hBA.size))⟩
          | some L =>
            have hT' := hT
            unfold turnT Turn4.z at hT'
            rw [hT'] at hR
            obtain ⟨zs', rfl, hz', o3, g3⟩ := hR
            rw [hT] at hst
            have hlz : zs'.length = xs.length := by
              have h1 := turnC_len hT'
              rw [← hz'] at h1
              simp at h1
              omega
            have hB3 := hBA.trans (below_of_mark oA g3 (Nat.le_refl _) hBA.size)
            go_wp2
            go_roundw
            case rel => exact ⟨k+1, zs', by omega, by go_num, hlz, by rw [hlz] at o3 ⊢; exact o3, Same.mk (by rw [hz']; exact hst), hB3⟩
            case measure => simp [intOf]; omega
        · have hst := hS.out
          rw [List.drop_eq_nil_of_le (by omega)] at hst
          have Hsome := hid (show turnAllC (xs.map Phasor.rd) ts = some (zs.map rdZ) by rw [Hyes.out]; exact hst.symm)
          clear hst hS HC HC2
          obtain ⟨W9, hW9⟩ : ∃ X, X = wr := ⟨_, rfl⟩
          subst hW9
          rw [hz] at o
          have hzl := (owns_lt o).2
          have HZ := hid (show ∀ a, (ha : a < zs.length) → W9.cell? ⟨w.heap.size, a, none⟩ = some (.complex .f64 zs[a].1 zs[a].2) from fun a ha => by
            have h1 := flatMap_get encZ 1 (fun _ => rfl) zs a ha 0 (by omega)
            rw [Nat.mul_one, Nat.add_zero] at h1
            rw [o.cellAt a (by have := o.1; omega), h1]; rfl)
          have hlz := hB.size
          have hML : ((zs.map ofZ).flatMap Phasor.enc).length = xs.length * 2 := by rw [flatMap_len Phasor.enc 2 (fun _ => rfl) (zs.map ofZ), List.length_map, hz]
          have HML := hid hML
          have HK := hid (show ∀ k, (hk : k < zs.length) → ∀ j, j < 2 → ((zs.map ofZ).flatMap Phasor.enc)[k * 2 + j]? = (Phasor.enc (ofZ zs[k]))[j]? from fun k hk j hj => by rw [flatMap_get Phasor.enc 2 (fun _ => rfl) (zs.map ofZ) k (by simpa using hk) j hj, List.getElem_map])
          clear hML o
          go_wp2_with (at_make; refine wpList_make_full _ rfl _ _ 46 rfl (W9.heap.size) 29 i1 (.agg #[.float .f64 0, .float .f64 0]) 2 Try.underlying46 hi' hy0 hy1 _ _ _ _ xs.length rfl rfl rfl rfl (by rw [hy2]; omega) (by unfold maxLen; omega) (Nat.le_refl _) ?_)
          intro w5 hown hgrow
          have hB5 := (Below.refl W9.heap.size W9).grown hgrow (Nat.le_refl _) (by simp)
          have hF := Fills.start (l := (zs.map ofZ).flatMap Phasor.enc) hown HML.out
          clear hown hgrow
          go_wp2
          go_loopw [48] (fun i wr => ∃ k : Nat, k ≤ xs.length ∧ i = .int .i64 k ∧ Fills wr W9.heap.size 29 2 (.slice (some ⟨W9.heap.size, 0, none⟩) xs.length xs.length) xs.length ((zs.map ofZ).flatMap Phasor.enc) (k * 2) ∧ Below W9.heap.size W9 wr) (fun i _ => xs.length - (intOf i).toNat)
          case atStart => exact ⟨0, by omega, rfl, by rw [Nat.zero_mul]; exact hF, hB5⟩
          case round =>
            clear hF hB5
            obtain ⟨k, hk, rfl, hF, hBq⟩ := hrel
            by_cases hlt : k < xs.length
            · have hkz : k < zs.length := by omega
              have c0 := (hBq.cell (p := ⟨w.heap.size, k, none⟩) hzl).trans (HZ.out k hkz)
              have l0 : ((zs.map ofZ).flatMap Phasor.enc)[k * 2]? = some (.float .f64 zs[k].1) := HK.out k hkz 0 (by omega)
              have l1 : ((zs.map ofZ).flatMap Phasor.enc)[k * 2 + 1]? = some (.float .f64 zs[k].2) := HK.out k hkz 1 (by omega)
              clear HZ HK
              go_wp2_with fail
              refine (impl_phasorOf_b _ _ _).mono ?_
              rintro e w2 ⟨rfl, hB1⟩
              have hF1 := hF.below hB1
              obtain ⟨g, hg, hbg, hgs, hcells⟩ := hF1.at HML.out (by rw [HML.out]; omega)
              obtain rfl := (Addr.mk.inj (Option.some.inj hg)).1
              obtain ⟨⟨u0, hu0⟩, hf0⟩ := hcells (k * 2) (by rw [HML.out]; omega)
              obtain ⟨⟨u1, hu1⟩, hf1⟩ := hcells (k * 2 + 1) (by rw [HML.out]; omega)
              have s0 := (hF1.store _ l0).1
              have s1 := (s0.store _ l1).1
              have hB2 := ((hBq.trans (hB1.mono hBq.size)).setCell (p := ⟨W9.heap.size, k * 2, none⟩) (Nat.le_refl _) (.float .f64 zs[k].1)).setCell (p := ⟨W9.heap.size, k * 2 + 1, none⟩) (Nat.le_refl _) (.float .f64 zs[k].2)
              clear hcells hF hg hF1 s0 l0 l1
              go_wp2
              go_roundw
              case rel => exact ⟨k+1, by omega, by go_num, by rw [Nat.add_mul]; exact s1, hB2⟩
              case measure => simp [intOf]; omega
            · have o3 := hF.done (by rw [HML.out]; omega)
              clear hF HK HZ
              go_wp2
              go_ret
              rw [show BehindR (turnAllC (xs.map Phasor.rd) ts) w = BehindR (some (zs.map rdZ)) w by rw [Hsome.out]]
              exact ⟨_, zs.map ofZ, rfl, map_ofZ zs, by rw [List.length_map, hz]; exact owns_mono o3 hlz, hB.trans (hBq.mono hlz)⟩
end Go.Proofs.Ytjcnoogloncbbaa
