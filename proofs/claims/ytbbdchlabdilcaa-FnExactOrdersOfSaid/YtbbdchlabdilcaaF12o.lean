/- Chapter 12: the orders of descriptors. -/
import Derived.Test.YtbbdchlabdilcaaOrd12
namespace Go.Proofs.Ytbbdchlabdilcaa
set_option maxRecDepth 100000
open Go.RowKit Go.Proofs Go.Own Go.Ord
def canD (vs : List Int) (d : DescD) : Bool := canL vs d.entries_
def dovD (vs : List Int) (d : DescD) : List Int := doL vs d.entries_
def ordC (fs : List Int) (ds : List DescD) : Int := if args12 fs ds 6 = true then ((cntF canD dovD ds ds.length fs (List.replicate ds.length false) : Nat) : Int) else 0
/-- By numbers. -/
theorem ord_nums (fs : List Int) (ds : List DescD) : ((List.range (facN ds.length)).map fun q => okN (runG canD dovD fs (ordN ds.length ds q))).sum = cntF canD dovD ds ds.length fs (List.replicate ds.length false) := by
  rw [ord_count canD dovD ds.length fs ds rfl, flags_count canD dovD ds ds.length fs _ (by simp) (by rw [live_none]), live_none]
theorem serTo_run : ∀ (ds : List DescD) (n i : Nat) (vs : List Int), i + n = ds.length → (serTo vs ds n i).2 = runG canD dovD vs (ds.drop i)
  | ds, 0, i, vs, h => by rw [List.drop_of_length_le (by omega)]; rfl
  | ds, n+1, i, vs, h => by
    rw [List.drop_eq_getElem_cons (by omega : i < ds.length)]
    show (serTo vs ds (n+1) i).2 = (canL vs ds[i].entries_ && runG canD dovD (doL vs ds[i].entries_) (ds.drop (i+1)))
    unfold serTo
    rw [List.getElem?_eq_getElem (by omega)]
    dsimp only
    by_cases hc : canL vs ds[i].entries_ = true
    · rw [if_pos hc, hc, Bool.true_and]; exact serTo_run ds n (i+1) _ (by omega)
    · rw [if_neg hc, show canL vs ds[i].entries_ = false by simpa using hc]; rfl
theorem facN_le6 {n : Nat} (h : n ≤ 6) : facN n ≤ 720 := by
  match n, h with
  | 0, _ => decide
  | 1, _ => decide
  | 2, _ => decide
  | 3, _ => decide
  | 4, _ => decide
  | 5, _ => decide
  | 6, _ => decide
theorem cntF_le {ds : List DescD} {n : Nat} {v : List Int} {dn : List Bool} (hl : ds.length = dn.length) (hn : (liveL ds dn).length = n) : cntF canD dovD ds n v dn ≤ facN n := by
  rw [flags_count canD dovD ds n v dn hl hn]; exact cntL_le canD dovD n v _
end Go.Proofs.Ytbbdchlabdilcaa
