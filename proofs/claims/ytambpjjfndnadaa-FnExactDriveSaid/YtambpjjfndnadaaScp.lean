/- A scope whose jumps all lead on: each label's rest is walked where it is met. Of any program. -/
import Derived.ScopeJumps
namespace Go
set_option maxRecDepth 100000
/-- As Q; by a goto to a label of the scope: the rest from that label on, walked, jumps no more. -/
def Exit.on (P : Program) (c : Code) (Q : Exit → Act → World → Prop) : Exit → Act → World → Prop
  | .goto l, a, w => ∃ rest, findLabel c l = some rest ∧ rest.wp P (Exit.noGoto Q) a w
  | e, a, w => Q e a w
section
variable {P : Program} {a : Act} {w : World} {Q : Exit → Act → World → Prop}
theorem wp_scope_on {c : Code} (h : c.wp P (Exit.on P c Q) a w) : (Code.scope c).wp P Q a w := by
  intro b k cs
  obtain ⟨e, a₁, w₁, hq, harr⟩ := h b (.inScope c :: k) cs
  cases e with
  | normal => exact ⟨.normal, a₁, w₁, hq, .head step_scope (Steps.trans harr (.one step_inScope))⟩
  | exit id => exact ⟨.exit id, a₁, w₁, hq, fun k' hk => .head step_scope (harr k' (by simp [exitTo, hk]))⟩
  | goto l =>
    obtain ⟨rest, hf, hw⟩ := hq
    have hg : gotoIn l (.inScope c :: k) = some (.code rest :: .inScope c :: k) := by simp [gotoIn, hf]
    have key : ∃ e a' w', Q e a' w' ∧ Arrives P (lone (b.at a₁ (.code rest :: .inScope c :: k)) cs w₁) b k cs e a' w' := by
      obtain ⟨e, a₂, w₂, hq, harr⟩ := hw b (.inScope c :: k) cs
      cases e with
      | normal => exact ⟨.normal, a₂, w₂, hq, Steps.trans harr (.one step_inScope)⟩
      | exit id => exact ⟨.exit id, a₂, w₂, hq, fun k' hk => harr k' (by simp [exitTo, hk])⟩
      | goto l' => exact hq.elim
      | ret => exact ⟨_, a₂, w₂, hq, harr⟩
      | panic ch => exact ⟨_, a₂, w₂, hq, harr⟩
      | outgrown => exact ⟨_, a₂, w₂, hq, harr⟩
    obtain ⟨e₂, a₂, w₂, hq₂, harr₂⟩ := key
    exact ⟨e₂, a₂, w₂, hq₂, .of_steps (.head step_scope (harr _ hg)) harr₂⟩
  | ret => exact ⟨_, a₁, w₁, hq, .of_steps (.one step_scope) harr⟩
  | panic ch => exact ⟨_, a₁, w₁, hq, .of_steps (.one step_scope) harr⟩
  | outgrown => exact ⟨_, a₁, w₁, hq, .of_steps (.one step_scope) harr⟩
/-- At a jump: the label's rest. -/
theorem on_goto {c rest : Code} {l : Nat} {K : Act → World → Prop} (hf : findLabel c l = some rest) (h : rest.wp P (Exit.noGoto Q) a w) : Exit.then K (Exit.on P c Q) (.goto l) a w := ⟨rest, hf, h⟩
theorem on_ret {c : Code} (h : Q .ret a w) : Exit.on P c Q .ret a w := h
end
end Go
