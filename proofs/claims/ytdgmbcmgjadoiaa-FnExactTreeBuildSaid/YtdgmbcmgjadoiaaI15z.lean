/- Chapter 15's program: a tree built of its keys: build. -/
import Derived.Test.YtdgmbcmgjadoiaaS15b
import Derived.Test.YtdgmbcmgjadoiaaS15
import Derived.Test.YtdgmbcmgjadoiaaAr
import Derived.Deep.RegionLaw
import Derived.Deep.Cut
namespace Go.Proofs.Ytdgmbcmgjadoiaa
set_option maxRecDepth 100000
open Go.RowKit Go.Proofs Go.Own
open Go Go.BigFrame
set_option linter.unusedVariables false
set_option linter.unusedSimpArgs false
/-- A twig stored in a tree's box, cell by cell. -/
theorem box_twig {w : World} {b : Nat} {L : List Twig} {root : Int} (h : BoxF w b (encT L root)) (p : Nat) (hp : p < L.length) (t : Twig) :
    BoxF ((((w.setCell ⟨b, p * 4, none⟩ (.bool t.used_)).setCell ⟨b, p * 4 + 1, none⟩ (.int .i64 t.key_)).setCell ⟨b, p * 4 + 2, none⟩ (.int .i64 t.left_)).setCell ⟨b, p * 4 + 3, none⟩ (.int .i64 t.right_)) b (encT (L.set p t) root) := by
  obtain ⟨A, hA⟩ : ∃ X, (L.take p).flatMap Twig.enc = X := ⟨_, rfl⟩
  obtain ⟨Z, hZ⟩ : ∃ X, (L.drop (p+1)).flatMap Twig.enc ++ [Value.int .i64 root] = X := ⟨_, rfl⟩
  have hAl : A.length = p * 4 := by rw [← hA]; exact Go.Own.take_len Twig.enc 4 (fun _ => rfl) L p (by omega)
  have e1 : encT L root = A ++ (Twig.enc L[p] ++ Z) := by
    show L.flatMap Twig.enc ++ [Value.int .i64 root] = _
    rw [← flatA_set Twig.enc 4 (fun _ => rfl) L p hp, hA, List.append_assoc, List.append_assoc, hZ]
  have e2 : encT (L.set p t) root = A ++ (Twig.enc t ++ Z) := by
    show (L.set p t).flatMap Twig.enc ++ [Value.int .i64 root] = _
    rw [← flatA_set Twig.enc 4 (fun _ => rfl) (L.set p t) p (by rw [List.length_set]; exact hp), List.getElem_set_self, List.take_set_of_le (Nat.le_refl _), List.drop_set_of_lt (by omega), hA, List.append_assoc, List.append_assoc, hZ]
  rw [e1] at h
  rw [e2]
  have hl : (A ++ (Twig.enc L[p] ++ Z)).length = p * 4 + (4 + Z.length) := by simp only [List.length_append, hAl]; rfl
  have z := (((h.set (p * 4) (by omega) (.bool t.used_)).set (p * 4 + 1) (by rw [List.length_set]; omega) (.int .i64 t.key_)).set (p * 4 + 2) (by rw [List.length_set, List.length_set]; omega) (.int .i64 t.left_)).set (p * 4 + 3) (by rw [List.length_set, List.length_set, List.length_set]; omega) (.int .i64 t.right_)
  rw [← hAl] at z
  rw [List.set_append_right _ _ (by omega), List.set_append_right _ _ (by omega), List.set_append_right _ _ (by omega), List.set_append_right _ _ (by omega), Nat.sub_self, Nat.add_sub_cancel_left, Nat.add_sub_cancel_left, Nat.add_sub_cancel_left] at z
  rw [← hAl]
  exact z
theorem chg_twig {w : World} {b o : Nat} (x0 x1 x2 x3 : Value) : ChgS (fun k => k = b) w ((((w.setCell ⟨b, o, none⟩ x0).setCell ⟨b, o + 1, none⟩ x1).setCell ⟨b, o + 2, none⟩ x2).setCell ⟨b, o + 3, none⟩ x3) :=
  ((((ChgS.refl (fun k => k = b) w).set ⟨b, o, none⟩ x0 rfl).set ⟨b, o + 1, none⟩ x1 rfl).set ⟨b, o + 2, none⟩ x2 rfl).set ⟨b, o + 3, none⟩ x3 rfl
def BuildIAt (f : Nat) : Prop := ∀ (b : Nat) (L : List Twig), L.length = 16 → ∀ (root : Int) (ks : List Int) (n p : Nat) (pi : Int) (v : Value) (w : World), ks.length = n → pi = (p : Int) → n ≤ f → p + n ≤ 16 → BoxF w b (encT L root) → (∀ W, ChgS (fun k => k = b) w W → Ints W v ks) →
  Calls Try.prog 46 #[.pointer (some ⟨b, 0, none⟩), v, .int .i64 pi] w fun e w' => e = .returned (.int .i64 (rootB ks p)) ∧ BoxF w' b (encT (buildT f L ks p) root) ∧ ChgS (fun k => k = b) w w'
set_option maxHeartbeats 8000000 in
theorem impl_build_step (f : Nat) (ih : ∀ g, g + 1 = f → BuildIAt g) : BuildIAt f := by
  intro b L hL root ks n p pi v w hn hpi hnf hpn hbx hv
  subst hpi
  have HL := hid hL
  have BX := hid hbx
  obtain ⟨a, cap, rfl, -, -, -⟩ := Ints.open (hv w (ChgS.refl _ w))
  have HV := hid hv
  clear hv hbx hL
  rw [hn]
  by_cases h0 : n = 0
  · subst h0
    obtain rfl : ks = [] := List.eq_nil_of_length_eq_zero hn
    have HE := hid (buildT_nil f L p)
    go_enter Try.func46, Try.ntmps46
    go_wp2
    go_ret
    exact ⟨by rfl, by rw [HE.out]; exact BX.out, ChgS.refl _ _⟩
  · obtain ⟨g, rfl⟩ : ∃ g, f = g + 1 := by
      cases f with
      | zero => omega
      | succ g => exact ⟨g, rfl⟩
    obtain ⟨m, hm⟩ : ∃ m, n / 2 = m := ⟨_, rfl⟩
    have hmn : m < n := by omega
    have hdv : (n : Int) / 2 = (m : Int) := by omega
    have hn0 : ¬ (n : Int) = 0 := by omega
    have hn16 : (n : Int) ≤ 16 := by omega
    have hm0 : (0 : Int) ≤ (m : Int) := by omega
    have hm16 : (m : Int) ≤ 16 := by omega
    have hmn2 : (m : Int) < (n : Int) := by omega
    have hp0 : (0 : Int) ≤ (p : Int) := by omega
    have hp16 : (p : Int) < 16 := by omega
    have hwp1 : IntKind.i64.wrap ((p : Int) + 1) = (p : Int) + 1 := by rw [IntKind.wrap_i64]; omega
    have hwp2 : IntKind.i64.wrap ((p : Int) + 1 + (m : Int)) = (p : Int) + 1 + (m : Int) := by rw [IntKind.wrap_i64]; omega
    have hwm : IntKind.i64.wrap (m : Int) = (m : Int) := by rw [IntKind.wrap_i64]; omega
    have hks : ∀ W, ChgS (fun k => k = b) w W → Ints W (.slice a ks.length cap) ks := by first | (rw [hn]; exact HV.out) | exact HV.out
    obtain ⟨bb, off, rfl, hbs, hnc, hcm, -⟩ := ints_cell (hks w (ChgS.refl _ w)) (by omega)
    rw [hn] at hnc
    have hmc : (m : Int) ≤ (cap : Int) := by omega
    have HI := hid (ih g rfl)
    have HCE := hid (fun (W : World) (hC : ChgS (fun k => k = b) w W) => show W.cell? ⟨bb, off + m, none⟩ = some (.int .i64 (ks.getD m 0)) by
      obtain ⟨b9, o9, e9, -, -, -, hc9⟩ := ints_cell (hks W hC) (by omega)
      obtain ⟨rfl, rfl⟩ : bb = b9 ∧ off = o9 := by simpa using e9
      exact hc9 m (by omega))
    have HP1 := hid (fun (W : World) (hC : ChgS (fun k => k = b) w W) => ints_pre (hks W hC) m (by omega))
    obtain ⟨m1, hm1⟩ : ∃ X, m + 1 = X := ⟨_, rfl⟩
    have hwm1 : IntKind.i64.wrap ((m : Int) + 1) = (m1 : Int) := by rw [IntKind.wrap_i64]; omega
    have hm10 : (0 : Int) ≤ (m1 : Int) := by omega
    have hm1n : (m1 : Int) ≤ (n : Int) := by omega
    have HP2 := hid (fun (W : World) (hC : ChgS (fun k => k = b) w W) => ints_post (hks W hC) m1 (by omega))
    rw [apply_ite some, hn] at HP2
    obtain ⟨a1, ha1⟩ : ∃ X, (if cap = m1 then some ⟨bb, off, none⟩ else some ⟨bb, off + m1, none⟩ : Option Addr) = X := ⟨_, rfl⟩
    rw [ha1] at HP2
    obtain ⟨y, hy⟩ : ∃ X, ks.getD m 0 = X := ⟨_, rfl⟩
    rw [hy] at HCE
    obtain ⟨LA, hLA⟩ : ∃ X, buildT g L (ks.take m) (p+1) = X := ⟨_, rfl⟩
    obtain ⟨r1, hr1⟩ : ∃ X, rootB (ks.take m) (p+1) = X := ⟨_, rfl⟩
    obtain ⟨LB, hLB⟩ : ∃ X, buildT g LA (ks.drop m1) (p + 1 + m) = X := ⟨_, rfl⟩
    obtain ⟨r2, hr2⟩ : ∃ X, rootB (ks.drop m1) (p + 1 + m) = X := ⟨_, rfl⟩
    have hLA16 : LA.length = 16 := by rw [← hLA]; exact (buildT_len _ _ _ _).trans HL.out
    have hLB16 : LB.length = 16 := by rw [← hLB]; exact (buildT_len _ _ _ _).trans hLA16
    have HBT := hid (show buildT (g+1) L ks p = LB.set p ⟨true, y, r1, r2⟩ by
      rw [buildT, if_neg (by omega), hn, hm, hm1, hLA, hLB, hr1, hr2, hy])
    have HRT := hid (show rootB ks p = (p : Int) by unfold rootB; rw [if_neg (by omega)])
    have ht1 : (ks.take m).length = m := by simp; omega
    have ht2 : (ks.drop m1).length = n - m1 := by simp; omega
    have HIA := hid (fun (W : World) (hB : BoxF W b (encT L root)) (hC : ChgS (fun k => k = b) w W) => HI.out b L HL.out root (ks.take m) m (p+1) ((p : Int) + 1) _ W ht1 (by omega) (by omega) (by omega) hB (fun W2 h2 => HP1.out W2 (hC.trans h2)))
    have HIB := hid (fun (W : World) (hB : BoxF W b (encT LA root)) (hC : ChgS (fun k => k = b) w W) => HI.out b LA hLA16 root (ks.drop m1) (n - m1) (p+1+m) ((p : Int) + 1 + (m : Int)) _ W ht2 (by omega) (by omega) (by omega) hB (fun W2 h2 => HP2.out W2 (hC.trans h2)))
    rw [hLA, hr1] at HIA
    rw [hLB, hr2] at HIB
    have HLB := hid hLB16
    have HPL := hid (show p < LB.length by omega)
    have HP16 := hid (show p < 16 by omega)
    have HF := hid (fun (W : World) (hB : BoxF W b (encT LB root)) => show W.frozen? ⟨b, p * 4, none⟩ = false ∧ W.frozen? ⟨b, p * 4 + 1, none⟩ = false ∧ W.frozen? ⟨b, p * 4 + 2, none⟩ = false ∧ W.frozen? ⟨b, p * 4 + 3, none⟩ = false from by
      have z : (encT LB root).length = 65 := tree_len (c := ⟨LB, root⟩) HLB.out
      have := HP16.out
      exact ⟨hB.2 _ (by omega), hB.2 _ (by omega), hB.2 _ (by omega), hB.2 _ (by omega)⟩)
    have GD := hid (ChgS.of_below (Below.refl w.heap.size w).drew (fun k => k = b))
    have BD := hid (BX.out.below (Below.refl w.heap.size w).drew)
    have k0 := HCE.out _ GD.out
    have T1 : Hid True := hid trivial
    have T2 : Hid True := hid trivial
    clear hks hbs ih hLA hr1 hLB hr2 hLA16 hLB16 HI HP1 HP2 ht1 ht2 hm1 hy HV
    go_enter Try.func46, Try.ntmps46
    go_upto_region 4 with fail
    go_region_law (first
      | (go_simp; go_at_call 46; clear T1; refine (HIA.out _ BD.out GD.out).mono ?_; rintro e w5 ⟨rfl, B5, G5⟩; have B5 := hid B5; have G5 := hid (GD.out.trans G5); have k5 := HCE.out _ G5.out)
      | (go_simp; go_at_call 46; clear T2; refine (HIB.out _ B5.out G5.out).mono ?_; rintro e w6 ⟨rfl, B6, G6⟩; have B6 := hid B6; have G6 := hid (G5.out.trans G6); have k6 := HCE.out _ G6.out; obtain ⟨c0, c1, c2, c3⟩ := tree_at B6.out HLB.out p HP16.out; obtain ⟨f0, f1, f2, f3⟩ := HF.out _ B6.out))
    all_goals go_wp2
    all_goals go_ret
    all_goals exact ⟨by rw [HRT.out]; rfl, by rw [HBT.out]; exact box_twig B6.out p HPL.out ⟨true, y, r1, r2⟩, G6.out.trans (chg_twig _ _ _ _)⟩
theorem impl_build (f : Nat) : BuildIAt f := by
  induction f with
  | zero => exact impl_build_step 0 fun g h => by omega
  | succ f ih => exact impl_build_step (f + 1) fun g h => by obtain rfl : g = f := by omega
                                                             exact ih
end Go.Proofs.Ytdgmbcmgjadoiaa
