/- 'laws.FnExactMerged' answers true at every argument, and each argument reads behind the call as it read before. No condition. -/
import Derived.Test.YtfhkngmankmehaaRows
import Derived.Test.YtfhkngmankmehaaL1e
import Derived.Test.YtfhkngmankmehaaRead
namespace Go.Proofs.Ytfhkngmankmehaa.lawMerged
open Go.RowKit Go.Proofs Go.Own Go.Proofs.Ytfhkngmankmehaa
open Go.ChangeShapes Go.WideShapes Go.ChangeAt
set_option linter.unusedVariables false

theorem own : ownKnob Try.prog.godebug = none := by kernel_rfl
theorem laidOut : laidOutB Try.prog = true := by kernel_rfl

theorem trodWordOp {H : Type} {enc : TypeId × Value → H} {w : World} {base : Nat} {spare : Nat → Bool} {held : Bool} (n : Nat) (cs : List Value) (y : DataW H × List MemPlace) (h : DataW.trod enc Try.prog w base spare held n 27 cs = some y) : ∃ a : WordOp, cs = a.enc := by
  have hC : Try.prog.cellsOf 27 = 4 := by kernel_rfl
  have hl : cs.length = 4 := by obtain ⟨ys, n', _, _, hl, _⟩ := DataW.trod_struct Try.underlying27 h; omega
  obtain ⟨hc0, n0, y0, t0⟩ := field_cell Try.underlying27 (by kernel_rfl) h (by kernel_rfl) 0 _ rfl
  obtain ⟨u0, e0, _⟩ := DataW.trod_int Try.underlying3 t0
  obtain ⟨hc1, n1, y1, t1⟩ := field_cell Try.underlying27 (by kernel_rfl) h (by kernel_rfl) 1 _ rfl
  obtain ⟨u1, e1, _⟩ := DataW.trod_int Try.underlying3 t1
  obtain ⟨hc2, n2, y2, t2⟩ := field_cell Try.underlying27 (by kernel_rfl) h (by kernel_rfl) 2 _ rfl
  obtain ⟨u2, e2, _⟩ := DataW.trod_int Try.underlying3 t2
  obtain ⟨hc3, n3, y3, t3⟩ := field_cell Try.underlying27 (by kernel_rfl) h (by kernel_rfl) 3 _ rfl
  obtain ⟨u3, e3, _⟩ := DataW.trod_int Try.underlying3 t3
  obtain ⟨c0, c1, c2, c3, rfl⟩ : ∃ c0 c1 c2 c3, cs = [c0, c1, c2, c3] := by
    match cs, hl with
    | [a0, a1, a2, a3], _ => exact ⟨a0, a1, a2, a3, rfl⟩
  obtain rfl := (List.cons.inj e0).1
  obtain rfl := (List.cons.inj e1).1
  obtain rfl := (List.cons.inj e2).1
  obtain rfl := (List.cons.inj e3).1
  exact ⟨⟨u0, u1, u2, u3⟩, rfl⟩
theorem ofWordOp {H : Type} {enc : TypeId × Value → H} {w : World} {base b0 : Nat} {spare : Nat → Bool} {held : Bool} {v : Value} {d : DataW H} {p : List MemPlace} (hv : Value.okWide Try.prog w .any b0 27 v) (h : DataW.Trod enc Try.prog w base spare held 27 v d p) : ∃ a : WordOp, v = a.val := by
  obtain ⟨cs, rfl, hsz⟩ := okWide_struct Try.underlying27 hv
  obtain ⟨n, h⟩ := h
  obtain ⟨a, ha⟩ := trodWordOp n _ _ h
  obtain ⟨l⟩ := cs
  exact ⟨a, by simp only [Value.cells] at ha; rw [ha]; rfl⟩

set_option maxRecDepth 100000 in
theorem lifted (os : Os) (started : os.Started) (H : Type) (enc : TypeId × Value → H) :
    ReturnsInHanded {} Try.checked os 7 .any (Rows.fnExactMergedSpec.pre6 enc Try.prog Try.f7 Rows.fnExactMergedRow.domain false) (Rows.fnExactMergedSpec.post enc Try.prog Try.f7 false true false false) := by
  refine returnsInHanded_of_change (C := Try.checked) own started (by kernel_rfl) Try.func7
    (ChangeSpec.witness6 (enc := enc) (C := Try.checked) false ⟨#[], #[.slice none 0 0, .slice none 0 0, .slice none 0 0], []⟩ 8 (by kernel_rfl) (by kernel_rfl) (by kernel_rfl) (by kernel_rfl)) ?_
  intro W base args ds gs before hval0 hW hcnd _
  have hval : ∀ (j : Nat) t v, Try.f7.params[j]? = some t → args[j]? = some v → Value.okWide Try.prog W .any base t v := hval0
  have hW' := hW
  obtain ⟨p, q, hA0, hV, rfl, hfz, hnd⟩ := hW
  have hA : DataW.TrodAll enc Try.prog W 0 (fun _ => true) true Try.f7.params.toList args.toList ds p := hA0
  rw [Try.params7] at hA hval
  obtain ⟨v0, vs0, d0, ds0, p0, q0, hargs, rfl, rfl, h0, r0⟩ := trodAll_cons hA
  obtain ⟨v1, vs1, d1, ds1, p1, q1, rfl, rfl, rfl, h1, r1⟩ := trodAll_cons r0
  obtain ⟨v2, vs2, d2, ds2, p2, q2, rfl, rfl, rfl, h2, r2⟩ := trodAll_cons r1
  obtain ⟨rfl, rfl, rfl⟩ := trodAll_nil r2
  obtain rfl : args = #[v0, v1, v2] := by cases args; simp_all
  obtain ⟨rfl, rfl⟩ := trodVars_none hV
  have lt0 : ∀ x ∈ p0, x.block < W.heap.size := by obtain ⟨m, hm⟩ := h0; exact DataW.trod_lt m _ _ _ hm
  have lt1 : ∀ x ∈ p1, x.block < W.heap.size := by obtain ⟨m, hm⟩ := h1; exact DataW.trod_lt m _ _ _ hm
  have lt2 : ∀ x ∈ p2, x.block < W.heap.size := by obtain ⟨m, hm⟩ := h2; exact DataW.trod_lt m _ _ _ hm
  obtain ⟨x0, w0⟩ : ∃ xs, WordOps W v0 xs := flat_of_trod WordOp.enc 4 (by decide) Try.underlying34 (by kernel_rfl) trodWordOp (fun _ => rfl) (okWide_slice Try.underlying34 (hval 0 34 v0 rfl rfl)) h0
  obtain ⟨x1, w1⟩ : ∃ xs, WordOps W v1 xs := flat_of_trod WordOp.enc 4 (by decide) Try.underlying34 (by kernel_rfl) trodWordOp (fun _ => rfl) (okWide_slice Try.underlying34 (hval 1 34 v1 rfl rfl)) h1
  obtain ⟨x2, w2⟩ : ∃ xs, Bools W v2 xs := flat_of_trod encB 1 (by decide) Try.underlying46 (by kernel_rfl) (trodB Try.underlying4) (fun _ => rfl) (okWide_slice Try.underlying46 (hval 2 46 v2 rfl rfl)) h2
  clear hA0 hval0
  refine (law_Merged v0 x0 v1 x1 v2 x2 W w0 w1 w2).mono fun e W' ⟨he, bel⟩ => ?_
  subst he
  exact ⟨_, rfl, _, _, _, [], _, [], hW', trodAll_mk1 (shut_bool Try.underlying4 _), (trodAll_cons_mk (Below.trod laidOut (by kernel_rfl) (of_decide_eq_true (by kernel_rfl)) h0 bel lt0) (trodAll_cons_mk (Below.trod laidOut (by kernel_rfl) (of_decide_eq_true (by kernel_rfl)) h1 bel lt1) (trodAll_cons_mk (Below.trod laidOut (by kernel_rfl) (of_decide_eq_true (by kernel_rfl)) h2 bel lt2) trodAll_mk0))), rfl, bel.frame _, fun h => by cases h⟩

theorem holds : Rows.FnExactMergedSaid :=
  OpenClaim.holds_of_wide 7 Try.f7 rfl rfl rfl rfl rfl rfl rfl ⟨rfl, rfl, rfl, rfl, rfl⟩ rfl rfl rfl rfl rfl (by kernel_rfl) Try.func7 (by kernel_rfl)
    (of_decide_eq_true (by kernel_rfl)) (by unfold Func.isWrapper; first | (rw [if_pos (by decide +kernel)]; kernel_rfl) | (rw [if_neg (by decide +kernel)]; exact ⟨rfl, rfl⟩))
    (fun os started H enc _ => lifted os started H enc)
end Go.Proofs.Ytfhkngmankmehaa.lawMerged
