/- 'laws.FnFair' answers true at every argument, and each argument reads behind the call as it read before. No condition. -/
import Derived.Test.YtjcoakgdhiiiaaaRows
import Derived.Test.YtjcoakgdhiiiaaaLFnFair
import Derived.Test.YtjcoakgdhiiiaaaRd5
namespace Go.Proofs.Ytjcoakgdhiiiaaa.lawFnFair
set_option maxRecDepth 100000
open Go.RowKit Go.Proofs Go.Own Go.Proofs.Ytjcoakgdhiiiaaa
open Go.ChangeShapes Go.WideShapes Go.ChangeAt
set_option linter.unusedVariables false

theorem unsub {α : Type} {p : α → Prop} {f : α → List Value} {w : World} {v : Value} {sz : Nat} {xs : List {a : α // p a}} (h : Flat w v xs.length sz (xs.flatMap fun a => f a.1)) : ∃ ys : List α, Flat w v ys.length sz (ys.flatMap f) ∧ ∀ y ∈ ys, p y :=
  ⟨xs.map (·.1), by simpa [List.flatMap_map] using h, by intro y hy; obtain ⟨a, _, rfl⟩ := List.mem_map.1 hy; exact a.2⟩
theorem trodY {P : Program} {H : Type} {enc : TypeId × Value → H} {w : World} {base : Nat} {spare : Nat → Bool} {held : Bool} {t : TypeId} (ht : P.underlying t = some (.int .u8)) (n : Nat) (cs : List Value) (y : DataW H × List MemPlace) (h : DataW.trod enc P w base spare held n t cs = some y) : ∃ a : {a : Int // 0 ≤ a ∧ a ≤ 255}, cs = encY a.1 := by
  obtain ⟨x, rfl, _, hw⟩ := DataW.trod_int ht h
  have h1 : IntKind.min .u8 = 0 := by decide
  have h2 : IntKind.max .u8 = 255 := by decide
  simp only [Lit.wf, Bool.and_eq_true, decide_eq_true_eq, h1, h2] at hw
  exact ⟨⟨x, hw⟩, rfl⟩
theorem own : ownKnob Try.prog.godebug = none := by kernel_rfl
theorem laidOut : laidOutB Try.prog = true := by kernel_rfl

set_option maxRecDepth 100000 in
theorem lifted (os : Os) (started : os.Started) (H : Type) (enc : TypeId × Value → H) :
    ReturnsInHanded {} Try.checked os 3 .any (Rows.fnFairSpec.pre6 enc Try.prog Try.f3 Rows.fnFairRow.domain false) (Rows.fnFairSpec.post enc Try.prog Try.f3 false true false false) := by
  refine returnsInHanded_of_change (C := Try.checked) own started (by kernel_rfl) Try.func3
    (ChangeSpec.witness6 (enc := enc) (C := Try.checked) false ⟨#[], #[.slice none 0 0], []⟩ 8 (by kernel_rfl) (by kernel_rfl) (by kernel_rfl) (by kernel_rfl)) ?_
  intro W base args ds gs before hval0 hW hcnd _
  have hval : ∀ (j : Nat) t v, Try.f3.params[j]? = some t → args[j]? = some v → Value.okWide Try.prog W .any base t v := hval0
  have hW' := hW
  obtain ⟨p, q, hA0, hV, rfl, hfz, hnd⟩ := hW
  have hA : DataW.TrodAll enc Try.prog W 0 (fun _ => true) true Try.f3.params.toList args.toList ds p := hA0
  rw [Try.params3] at hA hval
  obtain ⟨v0, vs0, d0, ds0, p0, q0, hargs, rfl, rfl, h0, r0⟩ := trodAll_cons hA
  obtain ⟨rfl, rfl, rfl⟩ := trodAll_nil r0
  obtain rfl : args = #[v0] := by cases args; simp_all
  obtain ⟨rfl, rfl⟩ := trodVars_none hV
  have lt0 : ∀ x ∈ p0, x.block < W.heap.size := by obtain ⟨m, hm⟩ := h0; exact DataW.trod_lt m _ _ _ hm
  obtain ⟨z0, y0⟩ := flat_of_trod (fun a : {a : Int // 0 ≤ a ∧ a ≤ 255} => encY a.1) 1 (by decide) Try.underlying22 (by kernel_rfl) (trodY Try.underlying5) (fun _ => rfl) (okWide_slice Try.underlying22 (hval 0 22 v0 rfl rfl)) h0
  obtain ⟨x0, w0, g0⟩ := unsub y0
  clear hA0 hval0
  refine (law_FnFair v0 x0 W w0 g0).mono fun e W' ⟨he, bel⟩ => ?_
  subst he
  exact ⟨_, rfl, _, _, _, [], _, [], hW', trodAll_mk1 (shut_bool Try.underlying4 _), (trodAll_cons_mk (Below.trod laidOut (by kernel_rfl) (of_decide_eq_true (by kernel_rfl)) h0 bel lt0) trodAll_mk0), rfl, bel.frame _, fun h => by cases h⟩

theorem holds : Rows.FnFairSaid :=
  OpenClaim.holds_of_wide 3 Try.f3 rfl rfl rfl rfl rfl rfl rfl ⟨rfl, rfl, rfl, rfl, rfl⟩ rfl rfl rfl rfl rfl (by kernel_rfl) Try.func3 (by kernel_rfl)
    (of_decide_eq_true (by kernel_rfl)) (by unfold Func.isWrapper; first | (rw [if_pos (by decide +kernel)]; kernel_rfl) | (rw [if_neg (by decide +kernel)]; exact ⟨rfl, rfl⟩))
    (fun os started H enc _ => lifted os started H enc)
end Go.Proofs.Ytjcoakgdhiiiaaa.lawFnFair
