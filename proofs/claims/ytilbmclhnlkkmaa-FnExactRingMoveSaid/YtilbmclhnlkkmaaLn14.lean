/- Chapter 14: how long what comes of a ring is. -/
import Derived.Test.YtilbmclhnlkkmaaS14t
namespace Go.Proofs.Ytilbmclhnlkkmaa
set_option maxRecDepth 100000
open Go.RowKit Go.Proofs Go.Own
theorem ringPutC_len (c : RingD) (hc : c.cells_.length = 8) (v : Int) : (ringPutC c v).1.cells_.length = 8 := by
  unfold ringPutC
  split
  · split
    · exact hc
    · exact putR_len hc v
  · exact hc
theorem takeC_len (c : RingD) (hc : c.cells_.length = 8) : (takeC c).1.cells_.length = 8 := by
  unfold takeC
  split
  · split
    · exact hc
    · exact takeR_len hc
  · exact hc
theorem turnC14_len (c : RingD) (hc : c.cells_.length = 8) (n : Int) : (turnC14 c n).1.cells_.length = 8 := by
  unfold turnC14
  split
  · exact turnN_len _ _ hc
  · exact hc
theorem moveN_len : ∀ (n : Nat) (a b : RingD), a.cells_.length = 8 → b.cells_.length = 8 → (moveN n a b).1.cells_.length = 8 ∧ (moveN n a b).2.cells_.length = 8
  | 0, a, b, ha, hb => ⟨ha, hb⟩
  | n+1, a, b, ha, hb => by unfold moveN; exact moveN_len n _ _ (takeR_len ha) (putR_len hb _)
theorem moveC_len (a b : RingD) (ha : a.cells_.length = 8) (hb : b.cells_.length = 8) (n : Int) : (moveC a b n).1.cells_.length = 8 ∧ (moveC a b n).2.1.cells_.length = 8 := by
  unfold moveC
  split
  · split
    · exact ⟨ha, hb⟩
    · split
      · exact ⟨ha, hb⟩
      · exact moveN_len _ _ _ ha hb
  · exact ⟨ha, hb⟩
theorem listC14_len (c : RingD) : (listC14 c).length ≤ 8 := by
  unfold listC14
  split
  · rename_i h
    have z := ((ringOk_iff c).1 h).2.1
    simp [listTo]
    omega
  · simp
end Go.Proofs.Ytilbmclhnlkkmaa
