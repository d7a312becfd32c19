/- Chapter 15: how long what comes of a tree is. -/
import Derived.Test.YtcjeafhejkppeaaS15l
namespace Go.Proofs.Ytcjeafhejkppeaa
set_option maxRecDepth 100000
open Go.RowKit Go.Proofs Go.Own
theorem keysC_len (c : TreeD) (hc : c.twigs_.length = 16) : (keysC c).length ≤ 16 := by
  cases h : treeOk c with
  | false => unfold keysC; rw [h]; simp
  | true =>
    obtain ⟨xs, _, _, h1, h2⟩ := keysC_part hc h
    rw [h2, List.length_map]; exact h1
end Go.Proofs.Ytcjeafhejkppeaa
