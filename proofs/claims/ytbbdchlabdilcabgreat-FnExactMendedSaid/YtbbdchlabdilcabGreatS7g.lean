/- Chapter 7's model: one step of a frame, on a store of the call's own. -/
import Derived.Test.YtbbdchlabdilcabGreatM9
import Derived.Test.YtbbdchlabdilcabGreatM10
import Derived.Test.YtbbdchlabdilcabGreatM4
import Derived.Deep.Cut
namespace Go.Own
open Go.RowKit
theorem ChgS.setNew {S : Nat → Prop} {w w' : World} (h : ChgS S w w') (p : Addr) (v : Value) (hp : w.heap.size ≤ p.block) : ChgS S w (w'.setCell p v) :=
  ⟨h.os, h.tape, h.output, by simpa [World.setCell] using h.size, fun k hk hs => (heap_setCell_other _ _ k _ (fun e => by omega)).trans (h.block k hk hs)⟩
theorem ChgS.drew {S : Nat → Prop} {w w' : World} (h : ChgS S w w') : ChgS S w w'.drew := ⟨h.os, h.tape, h.output, h.size, h.block⟩
/-- The result's three cells are laid: what is the call's own stays. -/
theorem fin3 {α β : Type} [A : Enc α] [B : Enc β] {S0 S1 T : Nat → Prop} {w X : World} {R : Nat} {v0 v1 : Value} {xs : List α} {ys : List β} (h0 : ownL S0 X v0 xs) (h1 : ownL S1 X v1 ys) (hC : ChgS T w X) (hR : w.heap.size ≤ R) (n0 : ∀ b, S0 b → b < w.heap.size) (n1 : ∀ b, S1 b → b < w.heap.size) (a b c : Value) :
    ownL S0 (((X.setCell ⟨R, 0, none⟩ a).setCell ⟨R, 1, none⟩ b).setCell ⟨R, 2, none⟩ c) v0 xs ∧ ownL S1 (((X.setCell ⟨R, 0, none⟩ a).setCell ⟨R, 1, none⟩ b).setCell ⟨R, 2, none⟩ c) v1 ys ∧ ChgS T w (((X.setCell ⟨R, 0, none⟩ a).setCell ⟨R, 1, none⟩ b).setCell ⟨R, 2, none⟩ c) := by
  have k : ∀ q, q < w.heap.size → (((X.setCell ⟨R, 0, none⟩ a).setCell ⟨R, 1, none⟩ b).setCell ⟨R, 2, none⟩ c).heap[q]? = X.heap[q]? := fun q hq => by
    rw [heap_setCell_other _ _ q _ (by show q ≠ R; omega), heap_setCell_other _ _ q _ (by show q ≠ R; omega), heap_setCell_other _ _ q _ (by show q ≠ R; omega)]
  exact ⟨h0.keep fun q hq => k q (n0 q hq), h1.keep fun q hq => k q (n1 q hq), ((hC.setNew _ _ hR).setNew _ _ hR).setNew _ _ hR⟩
end Go.Own
namespace Go.Proofs.YtbbdchlabdilcabGreat
set_option maxRecDepth 100000
open Go.RowKit Go.Proofs Go.Own
open Go Go.BigFrame
set_option linter.unusedVariables false
set_option linter.unusedSimpArgs false
theorem box3 {w : World} {B : Nat} {a b c : Value} (h : BoxF w B [a, b, c]) : (w.cell? ⟨B, 0, none⟩ = some a ∧ w.cell? ⟨B, 1, none⟩ = some b ∧ w.cell? ⟨B, 2, none⟩ = some c) ∧ w.frozen? ⟨B, 0, none⟩ = false ∧ w.frozen? ⟨B, 1, none⟩ = false ∧ w.frozen? ⟨B, 2, none⟩ = false :=
  ⟨⟨h.1.2 0 (by simp), h.1.2 1 (by simp), h.1.2 2 (by simp)⟩, h.2 0 (by simp), h.2 1 (by simp), h.2 2 (by simp)⟩
set_option maxHeartbeats 8000000 in
theorem spec_l7Drive0 (hs : List Head) (ds : List DescD) (S0 S1 : Nat → Prop) (v0 v1 : Value) (f : Frame) (w : World) (hS0 : ∀ b, S0 b → b < w.heap.size) (hS1 : ∀ b, S1 b → b < w.heap.size) (hdj : ∀ b, S0 b → ¬ S1 b) (h0 : ownL S0 w v0 hs) (h1 : ownL S1 w v1 ds) (hf : frameOk hs ds f = true) :
    Calls Tryz.prog 101 #[.agg #[v0, v1], .agg #[.int .i64 f.desc_, .int .i64 f.phase_, .int .i64 f.at_]] w fun e w' => e = .returned (.tuple #[.agg #[.int .i64 (stepF hs ds f).desc_, .int .i64 (stepF hs ds f).phase_, .int .i64 (stepF hs ds f).at_], .int .i64 (stepN hs ds f)]) ∧ ownL S0 w' v0 (stepH hs ds f) ∧ ownL S1 w' v1 (stepD ds f) ∧ ChgS (fun b => S0 b ∨ S1 b) w w' := by
  obtain ⟨hst, k, hfd, hk, hph, a, hfa, ha, hat⟩ := frameOk_parts hf
  obtain ⟨fd, fp, fa⟩ := f
  dsimp only at hfd hph hfa hat ⊢
  subst hfd hfa
  clear hf
  rw [entsAt_eq hk] at ha
  have hs60 := (storeOk_all hst).2.1
  have hs8 := (storeOk_all hst).1.2
  have hlen1 : ds.length ≤ 9223372036854775807 := by omega
  have hlen0 : hs.length ≤ 9223372036854775807 := by omega
  obtain ⟨ob, hob, hoh⟩ := cur_obj hst hk ha
  obtain ⟨hver, hde1, hde2⟩ := head_in hst hoh
  have he6 : ds[k].entries_.length ≤ 6 := by
    have h9 := (storeOk_all hst).2.2.1 k hk
    rw [descIn_is] at h9
    simp only [Bool.and_eq_true] at h9
    exact (descOk_len h9.1).2
  have hcE := hid (show curE ds ⟨(k : Int), fp, (a : Int)⟩ = ds[k].entries_[a] by unfold curE; dsimp only; rw [entsAt_eq hk, eAt_eq ha])
  have hcO := hid (show curO ds ⟨(k : Int), fp, (a : Int)⟩ = (ob : Int) by unfold curO; rw [hcE.out, hob])
  have hcH := hid (show curH hs ds ⟨(k : Int), fp, (a : Int)⟩ = hs[ob] by unfold curH; rw [hcO.out, hAt_eq hoh])
  have hcD := hid (dAt_eq hk)
  have H0 := hid h0
  have H1 := hid h1
  have NX := hid (fun b => show nextF ds ⟨(k : Int), fp, (a : Int)⟩ b = nextF ds ⟨(k : Int), fp, (a : Int)⟩ b from rfl)
  obtain ⟨g0, cap0, rfl, hg0, hgl0, c00, c01, c02, f0⟩ := own_head h0 ob hoh
  obtain ⟨g1, cap1, v2, rfl, hg1, hgl1, c10, c11, c12, hr2, f1, -⟩ := own_desc h1 k hk
  have F0 := hid f0
  have F1 := hid f1
  have hg01 : g0 ≠ g1 := fun e => hdj g0 hg0 (by rw [e]; exact hg1)
  clear f0 f1 h0 h1
  obtain ⟨ea, ecap, rfl, hle, hlm, hce⟩ := (rdsEntrys.1 hr2).open
  obtain ⟨be, off, rfl, hbe, e0, e1, e2, e3, e4⟩ := hce a ha
  rw [hob] at e0
  clear hce hr2
  obtain ⟨D, hDD⟩ : ∃ D, Hid (ds[k] = D) := ⟨_, hid rfl⟩
  obtain ⟨H, hHH⟩ : ∃ H, Hid (hs[ob] = H) := ⟨_, hid rfl⟩
  obtain ⟨E, hEE⟩ : ∃ E, Hid (ds[k].entries_[a] = E) := ⟨_, hid rfl⟩
  obtain ⟨n, hn⟩ : ∃ n, Hid (ds[k].entries_.length = n) := ⟨_, hid rfl⟩
  rw [hn.out] at c12 ha he6 hle
  rw [hDD.out] at c10 c11 hcD
  rw [hHH.out] at c00 c01 c02 hcH hver hde1 hde2
  rw [hEE.out] at e1 e2 e3 e4 hcE hob
  have hki : (k : Int) < (ds.length : Int) := by omega
  have hk0 : (0 : Int) ≤ (k : Int) := by omega
  have hai : (a : Int) < (n : Int) := by omega
  have ha0 : (0 : Int) ≤ (a : Int) := by omega
  have hoi : (ob : Int) < (hs.length : Int) := by omega
  have ho0 : (0 : Int) ≤ (ob : Int) := by omega
  have hn6 : n ≤ 9223372036854775807 := by omega
  obtain ⟨W1, hW1⟩ : ∃ X, ((w.alloc (.cells #[Value.slice (some ⟨g0, 0, none⟩) hs.length cap0, Value.slice (some ⟨g1, 0, none⟩) ds.length cap1] 37)).alloc (.cells #[.int .i64 (k : Int), .int .i64 fp, .int .i64 (a : Int)] 91)).alloc (.cells #[.int .i64 0, .int .i64 0, .int .i64 0] 91) = X := ⟨_, rfl⟩
  have hB1 : Below w.heap.size w W1 := by rw [← hW1]; exact (((Below.refl _ _).alloc (Nat.le_refl _) _).alloc (by simp) _).alloc (by simp; omega) _
  have hN1 : W1.heap.size = w.heap.size + 3 := by rw [← hW1]; simp
  have bs1 : BoxF W1 w.heap.size [Value.slice (some ⟨g0, 0, none⟩) hs.length cap0, Value.slice (some ⟨g1, 0, none⟩) ds.length cap1] := by
    rw [← hW1]
    exact ((BoxF.alloc w #[Value.slice (some ⟨g0, 0, none⟩) hs.length cap0, Value.slice (some ⟨g1, 0, none⟩) ds.length cap1] 37).below ((Below.refl _ _).alloc (Nat.le_refl _) _)).below ((Below.refl _ _).alloc (Nat.le_refl _) _)
  have bf1 : BoxF W1 (w.heap.size + 1) [.int .i64 (k : Int), .int .i64 fp, .int .i64 (a : Int)] := by
    rw [← hW1]
    have h1 := BoxF.alloc (w.alloc (.cells #[Value.slice (some ⟨g0, 0, none⟩) hs.length cap0, Value.slice (some ⟨g1, 0, none⟩) ds.length cap1] 37)) #[.int .i64 (k : Int), .int .i64 fp, .int .i64 (a : Int)] 91
    rw [show (w.alloc (.cells #[Value.slice (some ⟨g0, 0, none⟩) hs.length cap0, Value.slice (some ⟨g1, 0, none⟩) ds.length cap1] 37)).heap.size = w.heap.size + 1 by simp] at h1
    exact h1.below ((Below.refl _ _).alloc (Nat.le_refl _) _)
  have br1 : BoxF W1 (w.heap.size + 1 + 1) [.int .i64 0, .int .i64 0, .int .i64 0] := by
    rw [← hW1]
    have h1 := BoxF.alloc ((w.alloc (.cells #[Value.slice (some ⟨g0, 0, none⟩) hs.length cap0, Value.slice (some ⟨g1, 0, none⟩) ds.length cap1] 37)).alloc (.cells #[.int .i64 (k : Int), .int .i64 fp, .int .i64 (a : Int)] 91)) #[.int .i64 0, .int .i64 0, .int .i64 0] 91
    rw [show ((w.alloc (.cells #[Value.slice (some ⟨g0, 0, none⟩) hs.length cap0, Value.slice (some ⟨g1, 0, none⟩) ds.length cap1] 37)).alloc (.cells #[.int .i64 (k : Int), .int .i64 fp, .int .i64 (a : Int)] 91)).heap.size = w.heap.size + 1 + 1 by simp] at h1
    exact h1
  obtain ⟨W2, hW2⟩ : ∃ X, W1.alloc (.cells #[.int .i64 D.owner_, .int .i64 D.status_, Value.slice (some ⟨be, off, none⟩) n ecap] 85) = X := ⟨_, rfl⟩
  have b2 : Below W1.heap.size W1 W2 := by rw [← hW2]; exact (Below.refl _ _).alloc (Nat.le_refl _) _
  have hB2 := hB1.trans (b2.mono hB1.size)
  have hN2 : W2.heap.size = W1.heap.size + 1 := by rw [← hW2]; simp
  have bs2 := bs1.below b2
  have bf2 := bf1.below b2
  have br2 := br1.below b2
  have bd2 : BoxF W2 W1.heap.size [.int .i64 D.owner_, .int .i64 D.status_, Value.slice (some ⟨be, off, none⟩) n ecap] := by rw [← hW2]; exact BoxF.alloc W1 #[.int .i64 D.owner_, .int .i64 D.status_, Value.slice (some ⟨be, off, none⟩) n ecap] 85
  obtain ⟨W3, hW3⟩ : ∃ X, W2.alloc (.cells #[.int .i64 (ob : Int), .int .i64 E.version_, .int .i64 E.old_, .int .i64 E.new_, .bool E.write_] 121) = X := ⟨_, rfl⟩
  have b3 : Below W2.heap.size W2 W3 := by rw [← hW3]; exact (Below.refl _ _).alloc (Nat.le_refl _) _
  have hB3 := hB2.trans (b3.mono hB2.size)
  have hN3 : W3.heap.size = W2.heap.size + 1 := by rw [← hW3]; simp
  have bs3 := bs2.below b3
  have bf3 := bf2.below b3
  have br3 := br2.below b3
  have bd3 := bd2.below b3
  have be3 : BoxF W3 W2.heap.size [.int .i64 (ob : Int), .int .i64 E.version_, .int .i64 E.old_, .int .i64 E.new_, .bool E.write_] := by rw [← hW3]; exact BoxF.alloc W2 #[.int .i64 (ob : Int), .int .i64 E.version_, .int .i64 E.old_, .int .i64 E.new_, .bool E.write_] 121
  obtain ⟨W4, hW4⟩ : ∃ X, W3.alloc (.cells #[.int .i64 H.value_, .int .i64 H.version_, .int .i64 H.desc_] 55) = X := ⟨_, rfl⟩
  have b4 : Below W3.heap.size W3 W4 := by rw [← hW4]; exact (Below.refl _ _).alloc (Nat.le_refl _) _
  have hB4 := hB3.trans (b4.mono hB3.size)
  have hN4 : W4.heap.size = W3.heap.size + 1 := by rw [← hW4]; simp
  have bs4 := bs3.below b4
  have bf4 := bf3.below b4
  have br4 := br3.below b4
  have bd4 := bd3.below b4
  have be4 := be3.below b4
  have bh4 : BoxF W4 W3.heap.size [.int .i64 H.value_, .int .i64 H.version_, .int .i64 H.desc_] := by rw [← hW4]; exact BoxF.alloc W3 #[.int .i64 H.value_, .int .i64 H.version_, .int .i64 H.desc_] 55
  have x1s1 : W1.cell? ⟨w.heap.size, 1, none⟩ = some (Value.slice (some ⟨g1, 0, none⟩) ds.length cap1) := bs1.1.2 1 (by simp)
  have x1f0 : W1.cell? ⟨(w.heap.size + 1), 0, none⟩ = some (.int .i64 (k : Int)) := bf1.1.2 0 (by simp)
  have x1d0 := (hB1.cell (p := ⟨g1, k * 3, none⟩) hgl1).trans c10
  have x1d1 := (hB1.cell (p := ⟨g1, k * 3 + 1, none⟩) hgl1).trans c11
  have x1d2 := (hB1.cell (p := ⟨g1, k * 3 + 2, none⟩) hgl1).trans c12
  have x2d2 : W2.cell? ⟨W1.heap.size, 2, none⟩ = some (Value.slice (some ⟨be, off, none⟩) n ecap) := bd2.1.2 2 (by simp)
  have x2f2 : W2.cell? ⟨(w.heap.size + 1), 2, none⟩ = some (.int .i64 (a : Int)) := bf2.1.2 2 (by simp)
  have x2e0 := (hB2.cell (p := ⟨be, off + a * 5, none⟩) hbe).trans e0
  have x2e1 := (hB2.cell (p := ⟨be, off + a * 5 + 1, none⟩) hbe).trans e1
  have x2e2 := (hB2.cell (p := ⟨be, off + a * 5 + 2, none⟩) hbe).trans e2
  have x2e3 := (hB2.cell (p := ⟨be, off + a * 5 + 3, none⟩) hbe).trans e3
  have x2e4 := (hB2.cell (p := ⟨be, off + a * 5 + 4, none⟩) hbe).trans e4
  have x3s0 : W3.cell? ⟨w.heap.size, 0, none⟩ = some (Value.slice (some ⟨g0, 0, none⟩) hs.length cap0) := bs3.1.2 0 (by simp)
  have x3e0 : W3.cell? ⟨W2.heap.size, 0, none⟩ = some (.int .i64 (ob : Int)) := be3.1.2 0 (by simp)
  have x3h0 := (hB3.cell (p := ⟨g0, ob * 3, none⟩) hgl0).trans c00
  have x3h1 := (hB3.cell (p := ⟨g0, ob * 3 + 1, none⟩) hgl0).trans c01
  have x3h2 := (hB3.cell (p := ⟨g0, ob * 3 + 2, none⟩) hgl0).trans c02
  have x4s0 : W4.cell? ⟨w.heap.size, 0, none⟩ = some (Value.slice (some ⟨g0, 0, none⟩) hs.length cap0) := bs4.1.2 0 (by simp)
  have x4s1 : W4.cell? ⟨w.heap.size, 1, none⟩ = some (Value.slice (some ⟨g1, 0, none⟩) ds.length cap1) := bs4.1.2 1 (by simp)
  have x4f0 : W4.cell? ⟨(w.heap.size + 1), 0, none⟩ = some (.int .i64 (k : Int)) := bf4.1.2 0 (by simp)
  have x4f1 : W4.cell? ⟨(w.heap.size + 1), 1, none⟩ = some (.int .i64 fp) := bf4.1.2 1 (by simp)
  have x4f2 : W4.cell? ⟨(w.heap.size + 1), 2, none⟩ = some (.int .i64 (a : Int)) := bf4.1.2 2 (by simp)
  have x4d1 : W4.cell? ⟨W1.heap.size, 1, none⟩ = some (.int .i64 D.status_) := bd4.1.2 1 (by simp)
  have x4e0 : W4.cell? ⟨W2.heap.size, 0, none⟩ = some (.int .i64 (ob : Int)) := be4.1.2 0 (by simp)
  have x4e1 : W4.cell? ⟨W2.heap.size, 1, none⟩ = some (.int .i64 E.version_) := be4.1.2 1 (by simp)
  have x4e2 : W4.cell? ⟨W2.heap.size, 2, none⟩ = some (.int .i64 E.old_) := be4.1.2 2 (by simp)
  have x4e3 : W4.cell? ⟨W2.heap.size, 3, none⟩ = some (.int .i64 E.new_) := be4.1.2 3 (by simp)
  have x4e4 : W4.cell? ⟨W2.heap.size, 4, none⟩ = some (.bool E.write_) := be4.1.2 4 (by simp)
  have x4h0 : W4.cell? ⟨W3.heap.size, 0, none⟩ = some (.int .i64 H.value_) := bh4.1.2 0 (by simp)
  have x4h1 : W4.cell? ⟨W3.heap.size, 1, none⟩ = some (.int .i64 H.version_) := bh4.1.2 1 (by simp)
  have x4h2 : W4.cell? ⟨W3.heap.size, 2, none⟩ = some (.int .i64 H.desc_) := bh4.1.2 2 (by simp)
  have x4r0 : W4.cell? ⟨(w.heap.size + 1 + 1), 0, none⟩ = some (.int .i64 0) := br4.1.2 0 (by simp)
  have y4r0 : W4.frozen? ⟨w.heap.size + 1 + 1, 0, none⟩ = false := br4.2 0 (by simp)
  have x4r1 : W4.cell? ⟨(w.heap.size + 1 + 1), 1, none⟩ = some (.int .i64 0) := br4.1.2 1 (by simp)
  have y4r1 : W4.frozen? ⟨w.heap.size + 1 + 1, 1, none⟩ = false := br4.2 1 (by simp)
  have x4r2 : W4.cell? ⟨(w.heap.size + 1 + 1), 2, none⟩ = some (.int .i64 0) := br4.1.2 2 (by simp)
  have y4r2 : W4.frozen? ⟨w.heap.size + 1 + 1, 2, none⟩ = false := br4.2 2 (by simp)
  have O04 := hid (H0.out.keep (w' := W4) fun b hb => hB4.block b (hS0 b hb))
  have O14 := hid (H1.out.keep (w' := W4) fun b hb => hB4.block b (hS1 b hb))
  have HB4 := hid hB4
  have BS4 := hid bs4
  have BF4 := hid bf4
  have BR4 := hid br4
  have BH4 := hid bh4
  have BE4 := hid be4
  have BD4 := hid bd4
  have HN4 := hid (And.intro hN1 (And.intro hN2 (And.intro hN3 hN4)))
  have HS0 := hid hS0
  have HS1 := hid hS1
  have HC4 := hid (ChgS.of_below hB4 (fun b => S0 b ∨ S1 b))
  clear c00 c01 c02 c10 c11 c12 e0 e1 e2 e3 e4 bs1 bs2 bs3 bs4 bf1 bf2 bf3 bf4 br1 br2 br3 br4 bd2 bd3 bd4 be3 be4 bh4 b2 b3 b4 hB1 hB2 hB3 hB4 hS0 hS1 hN1 hN2 hN3 hN4
  have qg0s := hid (show g0 ≠ w.heap.size by have h8 := HN4.out; omega)
  have qg1s := hid (show g1 ≠ w.heap.size by have h8 := HN4.out; omega)
  have qhs := hid (show W3.heap.size ≠ w.heap.size by have h8 := HN4.out; omega)
  have qg0f := hid (show g0 ≠ w.heap.size + 1 by have h8 := HN4.out; omega)
  have qg1f := hid (show g1 ≠ w.heap.size + 1 by have h8 := HN4.out; omega)
  have qhf := hid (show W3.heap.size ≠ w.heap.size + 1 by have h8 := HN4.out; omega)
  have qg0r := hid (show g0 ≠ w.heap.size + 1 + 1 by have h8 := HN4.out; omega)
  have qg1r := hid (show g1 ≠ w.heap.size + 1 + 1 by have h8 := HN4.out; omega)
  have qhr := hid (show W3.heap.size ≠ w.heap.size + 1 + 1 by have h8 := HN4.out; omega)
  have qg0d := hid (show g0 ≠ W1.heap.size by have h8 := HN4.out; omega)
  have qg1d := hid (show g1 ≠ W1.heap.size by have h8 := HN4.out; omega)
  have qhd := hid (show W3.heap.size ≠ W1.heap.size by have h8 := HN4.out; omega)
  have qg0e := hid (show g0 ≠ W2.heap.size by have h8 := HN4.out; omega)
  have qg1e := hid (show g1 ≠ W2.heap.size by have h8 := HN4.out; omega)
  have qhe := hid (show W3.heap.size ≠ W2.heap.size by have h8 := HN4.out; omega)
  have qg0h := hid (show g0 ≠ W3.heap.size by have h8 := HN4.out; omega)
  have qg1h := hid (show g1 ≠ W3.heap.size by have h8 := HN4.out; omega)
  have NB0 := hid (show ∀ b, S0 b → b ≠ W3.heap.size from fun b hb => by have h8 := HN4.out; have h9 := HS0.out b hb; omega)
  have NB1 := hid (show ∀ b, S1 b → b ≠ W3.heap.size from fun b hb => by have h8 := HN4.out; have h9 := HS1.out b hb; omega)
  have NG0 := hid (show ∀ b, S0 b → b ≠ g1 from fun b hb e => hdj b hb (by rw [e]; exact hg1))
  have NG1 := hid (show ∀ b, S1 b → b ≠ g0 from fun b hb e => hdj b (by rw [e]; exact hg0) hb)
  have hWh := hid (show w.heap.size ≤ W3.heap.size by have h8 := HN4.out; omega)
  have hRr := hid (show w.heap.size ≤ w.heap.size + 1 + 1 by omega)
  have h46 := hid (show (a : Int) ≤ 1048576 by omega)
  have hkL := hid (show k < ds.length from hk)
  have hsz4 := hid (show ∀ X : World, ChgS (fun b => S0 b ∨ S1 b) w X → (∀ b, S0 b → b < X.heap.size) ∧ ∀ b, S1 b → b < X.heap.size from fun X c => ⟨fun b hb => Nat.lt_of_lt_of_le (HS0.out b hb) c.size, fun b hb => Nat.lt_of_lt_of_le (HS1.out b hb) c.size⟩)
  have Hat := hid hat
  clear hat
  go_enter Tryz.func101, Tryz.ntmps101
  go_upto_region 4 with fail
  try rw [hW1]
  try rw [hW2]
  try rw [hW3]
  try rw [hW4]
  have HW1 := hid hW1
  have HW2 := hid hW2
  have HW3 := hid hW3
  have HW4 := hid hW4
  clear hW1 hW2 hW3 hW4 x1s1 x1f0 x1d0 x1d1 x1d2 x2d2 x2f2 x2e0 x2e1 x2e2 x2e3 x2e4 x3s0 x3e0 x3h0 x3h1 x3h2
  have hph6 : fp = 0 ∨ fp = 1 ∨ fp = 2 ∨ fp = 3 ∨ fp = 4 ∨ fp = 5 := by omega
  clear hph
  rcases hph6 with rfl | rfl | rfl | rfl | rfl | rfl
  · have HHs := hid (show stepH hs ds ⟨(k : Int), 0, (a : Int)⟩ = hs by simp [stepH])
    have HDs := hid (show stepD ds ⟨(k : Int), 0, (a : Int)⟩ = ds by simp [stepD])
    have HNv := hid (show stepN hs ds ⟨(k : Int), 0, (a : Int)⟩ = -1 by simp [stepN])
    by_cases hq : D.status_ = 0
    · have HF := hid (show stepF hs ds ⟨(k : Int), 0, (a : Int)⟩ = ⟨(k : Int), 1, 0⟩ by unfold stepF; dsimp only; rw [if_pos rfl, hcD.out, if_pos hq])
      have hq' : (D.status_ == 0) = true := by rw [beq_iff_eq]; exact hq
      clear hq
      have y4r0 : W4.cell? ⟨w.heap.size + 1 + 1, 0, none⟩ = some (.int .i64 0) := BR4.out.1.2 0 (by simp)
      have z4r0 : W4.frozen? ⟨w.heap.size + 1 + 1, 0, none⟩ = false := BR4.out.2 0 (by simp)
      have y4r1 : W4.cell? ⟨w.heap.size + 1 + 1, 1, none⟩ = some (.int .i64 0) := BR4.out.1.2 1 (by simp)
      have z4r1 : W4.frozen? ⟨w.heap.size + 1 + 1, 1, none⟩ = false := BR4.out.2 1 (by simp)
      have y4r2 : W4.cell? ⟨w.heap.size + 1 + 1, 2, none⟩ = some (.int .i64 0) := BR4.out.1.2 2 (by simp)
      have z4r2 : W4.frozen? ⟨w.heap.size + 1 + 1, 2, none⟩ = false := BR4.out.2 2 (by simp)
      go_wp2_with ((try simp only [Exit.inBlock, Exit.then]); (with_reducible refine bodyPost_ret (v := .tuple #[.agg #[.int .i64 (k : Int), .int .i64 1, .int .i64 0], .int .i64 (-1)]) ?_ (by exact rfl) ?_); (simp [results, Tryz.results101, go_sem, y4r0, z4r0, y4r1, z4r1, y4r2, z4r2]); (exact ⟨by rw [HF.out, HNv.out], by rw [HHs.out, HDs.out]; exact fin3 O04.out O14.out HC4.out hRr.out HS0.out HS1.out _ _ _⟩))
    · have HF := hid (show stepF hs ds ⟨(k : Int), 0, (a : Int)⟩ = ⟨(k : Int), 4, 0⟩ by unfold stepF; dsimp only; rw [if_pos rfl, hcD.out, if_neg hq])
      have hq' : (D.status_ == 0) = false := by rw [beq_eq_false_iff_ne]; exact hq
      clear hq
      have y4r0 : W4.cell? ⟨w.heap.size + 1 + 1, 0, none⟩ = some (.int .i64 0) := BR4.out.1.2 0 (by simp)
      have z4r0 : W4.frozen? ⟨w.heap.size + 1 + 1, 0, none⟩ = false := BR4.out.2 0 (by simp)
      have y4r1 : W4.cell? ⟨w.heap.size + 1 + 1, 1, none⟩ = some (.int .i64 0) := BR4.out.1.2 1 (by simp)
      have z4r1 : W4.frozen? ⟨w.heap.size + 1 + 1, 1, none⟩ = false := BR4.out.2 1 (by simp)
      have y4r2 : W4.cell? ⟨w.heap.size + 1 + 1, 2, none⟩ = some (.int .i64 0) := BR4.out.1.2 2 (by simp)
      have z4r2 : W4.frozen? ⟨w.heap.size + 1 + 1, 2, none⟩ = false := BR4.out.2 2 (by simp)
      go_wp2_with ((try simp only [Exit.inBlock, Exit.then]); (with_reducible refine bodyPost_ret (v := .tuple #[.agg #[.int .i64 (k : Int), .int .i64 4, .int .i64 0], .int .i64 (-1)]) ?_ (by exact rfl) ?_); (simp [results, Tryz.results101, go_sem, y4r0, z4r0, y4r1, z4r1, y4r2, z4r2]); (exact ⟨by rw [HF.out, HNv.out], by rw [HHs.out, HDs.out]; exact fin3 O04.out O14.out HC4.out hRr.out HS0.out HS1.out _ _ _⟩))
  · have HDs := hid (show stepD ds ⟨(k : Int), 1, (a : Int)⟩ = ds by simp [stepD])
    by_cases hq : H.desc_ = (k : Int)
    · have hq' : (H.desc_ == (k : Int)) = true := by rw [beq_iff_eq]; exact hq
      have HHs := hid (show stepH hs ds ⟨(k : Int), 1, (a : Int)⟩ = hs by unfold stepH; dsimp only; rw [if_pos rfl, hcH.out, if_neg (fun h => h.1 hq)])
      have HNv := hid (show stepN hs ds ⟨(k : Int), 1, (a : Int)⟩ = -1 by unfold stepN; dsimp only; rw [hcH.out, if_neg (fun h => h.2.1 hq)])
      have HF := hid (show stepF hs ds ⟨(k : Int), 1, (a : Int)⟩ = nextF ds ⟨(k : Int), 1, (a : Int)⟩ 2 by unfold stepF; dsimp only; rw [if_neg (by decide), if_pos rfl, hcH.out, if_pos hq])
      clear hq
      have y4s0 : W4.cell? ⟨w.heap.size, 0, none⟩ = some (Value.slice (some ⟨g0, 0, none⟩) hs.length cap0) := BS4.out.1.2 0 (by simp)
      have y4s1 : W4.cell? ⟨w.heap.size, 1, none⟩ = some (Value.slice (some ⟨g1, 0, none⟩) ds.length cap1) := BS4.out.1.2 1 (by simp)
      have y4f0 : W4.cell? ⟨w.heap.size + 1, 0, none⟩ = some (.int .i64 (k : Int)) := BF4.out.1.2 0 (by simp)
      have y4f1 : W4.cell? ⟨w.heap.size + 1, 1, none⟩ = some (.int .i64 1) := BF4.out.1.2 1 (by simp)
      have y4f2 : W4.cell? ⟨w.heap.size + 1, 2, none⟩ = some (.int .i64 (a : Int)) := BF4.out.1.2 2 (by simp)
      go_wp2_with fail
      refine (spec_l7Next0 (hs) (ds) _ _ ⟨(k : Int), 1, (a : Int)⟩ 2 _ (ownL.rds O04.out) (ownL.rds O14.out) k rfl hkL.out ⟨ha0, h46.out⟩).mono ?_
      rintro e w9 ⟨rfl, b9⟩
      have BR9 := hid (BR4.out.below b9)
      have O09 := hid (O04.out.keep (w' := w9) fun b hb => b9.block b ((hsz4.out _ HC4.out).1 b hb))
      have O19 := hid (O14.out.keep (w' := w9) fun b hb => b9.block b ((hsz4.out _ HC4.out).2 b hb))
      have C9 := hid (HC4.out.trans (ChgS.of_below b9 _))
      clear b9
      have y9r0 : w9.cell? ⟨w.heap.size + 1 + 1, 0, none⟩ = some (.int .i64 0) := BR9.out.1.2 0 (by simp)
      have z9r0 : w9.frozen? ⟨w.heap.size + 1 + 1, 0, none⟩ = false := BR9.out.2 0 (by simp)
      have y9r1 : w9.cell? ⟨w.heap.size + 1 + 1, 1, none⟩ = some (.int .i64 0) := BR9.out.1.2 1 (by simp)
      have z9r1 : w9.frozen? ⟨w.heap.size + 1 + 1, 1, none⟩ = false := BR9.out.2 1 (by simp)
      have y9r2 : w9.cell? ⟨w.heap.size + 1 + 1, 2, none⟩ = some (.int .i64 0) := BR9.out.1.2 2 (by simp)
      have z9r2 : w9.frozen? ⟨w.heap.size + 1 + 1, 2, none⟩ = false := BR9.out.2 2 (by simp)
      go_wp2_with ((try simp only [Exit.inBlock, Exit.then]); (with_reducible refine bodyPost_ret (v := .tuple #[.agg #[.int .i64 (nextF ds ⟨(k : Int), 1, (a : Int)⟩ 2).desc_, .int .i64 (nextF ds ⟨(k : Int), 1, (a : Int)⟩ 2).phase_, .int .i64 (nextF ds ⟨(k : Int), 1, (a : Int)⟩ 2).at_], .int .i64 (-1)]) ?_ (by exact rfl) ?_); (simp [results, Tryz.results101, go_sem, y9r0, z9r0, y9r1, z9r1, y9r2, z9r2]); (exact ⟨by rw [HF.out, HNv.out], by rw [HHs.out, HDs.out]; exact fin3 O09.out O19.out C9.out hRr.out HS0.out HS1.out _ _ _⟩))
    have hq' : (H.desc_ == (k : Int)) = false := by rw [beq_eq_false_iff_ne]; exact hq
    by_cases hq2 : 0 ≤ H.desc_
    · have HHs := hid (show stepH hs ds ⟨(k : Int), 1, (a : Int)⟩ = hs by unfold stepH; dsimp only; rw [if_pos rfl, hcH.out, if_neg (fun h => h.2.1 hq2)])
      have HNv := hid (show stepN hs ds ⟨(k : Int), 1, (a : Int)⟩ = H.desc_ by unfold stepN; dsimp only; rw [hcH.out, if_pos ⟨rfl, hq, hq2⟩])
      have HF := hid (show stepF hs ds ⟨(k : Int), 1, (a : Int)⟩ = ⟨(k : Int), 0, 0⟩ by unfold stepF; dsimp only; rw [if_neg (by decide), if_pos rfl, hcH.out, if_neg hq, if_pos hq2])
      clear hq
      have y4r0 : W4.cell? ⟨w.heap.size + 1 + 1, 0, none⟩ = some (.int .i64 0) := BR4.out.1.2 0 (by simp)
      have z4r0 : W4.frozen? ⟨w.heap.size + 1 + 1, 0, none⟩ = false := BR4.out.2 0 (by simp)
      have y4r1 : W4.cell? ⟨w.heap.size + 1 + 1, 1, none⟩ = some (.int .i64 0) := BR4.out.1.2 1 (by simp)
      have z4r1 : W4.frozen? ⟨w.heap.size + 1 + 1, 1, none⟩ = false := BR4.out.2 1 (by simp)
      have y4r2 : W4.cell? ⟨w.heap.size + 1 + 1, 2, none⟩ = some (.int .i64 0) := BR4.out.1.2 2 (by simp)
      have z4r2 : W4.frozen? ⟨w.heap.size + 1 + 1, 2, none⟩ = false := BR4.out.2 2 (by simp)
      have hne : (W3.heap.size == w.heap.size + 1 + 1) = false := by rw [beq_eq_false_iff_ne]; have h8 := HN4.out; omega
      have hne2 : (w.heap.size + 1 == w.heap.size + 1 + 1) = false := by rw [beq_eq_false_iff_ne]; omega
      have hne3 : W3.heap.size ≠ w.heap.size + 1 + 1 := by have h8 := HN4.out; omega
      have hne4 : w.heap.size + 1 + 1 ≠ W3.heap.size := by omega
      go_wp2_with fail
      go_region
      all_goals go_wp2
      all_goals refine bodyPost_ret (v := .tuple #[.agg #[.int .i64 (k : Int), .int .i64 0, .int .i64 0], .int .i64 H.desc_]) ?_ rfl ?_
      all_goals first
        | (simp [results, Tryz.results101, go_sem, y4r0, z4r0, y4r1, z4r1, y4r2, z4r2]; done)
        | exact ⟨by rw [HF.out, HNv.out], by rw [HHs.out, HDs.out]; first | exact fin3 O04.out O14.out HC4.out hRr.out HS0.out HS1.out _ _ _ | exact fin3 (X := W4.drew) O04.out O14.out HC4.out.drew hRr.out HS0.out HS1.out _ _ _⟩
    by_cases hq3 : H.version_ = E.version_
    · have hq3' : (H.version_ != E.version_) = false := by simp [hq3]
      have hq2' : decide (0 ≤ H.desc_) = false := decide_eq_false hq2
      have HHs := hid (show stepH hs ds ⟨(k : Int), 1, (a : Int)⟩ = hs.set ob (layH (k : Int) H) by unfold stepH; dsimp only; rw [if_pos rfl, hcH.out, hcE.out, if_pos ⟨hq, hq2, hq3⟩, hcO.out, Int.toNat_natCast])
      have HNv := hid (show stepN hs ds ⟨(k : Int), 1, (a : Int)⟩ = -1 by unfold stepN; dsimp only; rw [hcH.out, if_neg (fun h => hq2 h.2.2)])
      have HF := hid (show stepF hs ds ⟨(k : Int), 1, (a : Int)⟩ = nextF ds ⟨(k : Int), 1, (a : Int)⟩ 2 by unfold stepF; dsimp only; rw [if_neg (by decide), if_pos rfl, hcH.out, hcE.out, if_neg hq, if_neg hq2, if_pos hq3])
      clear hq hq3
      have xh2 : W4.cell? ⟨g0, ob * 3 + 2, none⟩ = some (.int .i64 H.desc_) := by obtain ⟨g9, cap9, e9, -, -, -, -, h9, -⟩ := own_head O04.out ob hoh; simp only [Value.slice.injEq, Option.some.injEq, Addr.mk.injEq, and_true, true_and] at e9; obtain ⟨rfl, -⟩ := e9; rw [hHH.out] at h9; exact h9
      have zh2 : W4.frozen? ⟨g0, ob * 3 + 2, none⟩ = false := (HB4.out.frozen (p := ⟨g0, ob * 3 + 2, none⟩) hgl0).trans (F0.out _)
      obtain ⟨W5, hW5⟩ : ∃ X, W4.setCell ⟨g0, ob * 3 + 2, none⟩ (.int .i64 (k : Int)) = X := ⟨_, rfl⟩
      have Bs5 : Hid (BoxF W5 (w.heap.size) [Value.slice (some ⟨g0, 0, none⟩) hs.length cap0, Value.slice (some ⟨g1, 0, none⟩) ds.length cap1]) := by rw [← hW5]; exact hid (BS4.out.other _ _ qg0s.out)
      have Bf5 : Hid (BoxF W5 (w.heap.size + 1) [.int .i64 (k : Int), .int .i64 1, .int .i64 (a : Int)]) := by rw [← hW5]; exact hid (BF4.out.other _ _ qg0f.out)
      have Br5 : Hid (BoxF W5 (w.heap.size + 1 + 1) [.int .i64 0, .int .i64 0, .int .i64 0]) := by rw [← hW5]; exact hid (BR4.out.other _ _ qg0r.out)
      have Bd5 : Hid (BoxF W5 (W1.heap.size) [.int .i64 D.owner_, .int .i64 D.status_, Value.slice (some ⟨be, off, none⟩) n ecap]) := by rw [← hW5]; exact hid (BD4.out.other _ _ qg0d.out)
      have Be5 : Hid (BoxF W5 (W2.heap.size) [.int .i64 (ob : Int), .int .i64 E.version_, .int .i64 E.old_, .int .i64 E.new_, .bool E.write_]) := by rw [← hW5]; exact hid (BE4.out.other _ _ qg0e.out)
      have Bh5 : Hid (BoxF W5 (W3.heap.size) [.int .i64 H.value_, .int .i64 H.version_, .int .i64 H.desc_]) := by rw [← hW5]; exact hid (BH4.out.other _ _ qg0h.out)
      have O05 : Hid (ownL S0 W5 (Value.slice (some ⟨g0, 0, none⟩) hs.length cap0) (hs.set ob (layH (k : Int) H))) := by rw [← hW5]; exact hid (own_head_set O04.out ob hoh 2 (by omega) _ _ (by rw [hHH.out]; rfl))
      have O15 : Hid (ownL S1 W5 (Value.slice (some ⟨g1, 0, none⟩) ds.length cap1) (ds)) := by rw [← hW5]; exact hid (own_set O14.out NG1.out)
      have C5 : Hid (ChgS (fun b => S0 b ∨ S1 b) w W5) := by rw [← hW5]; exact hid (HC4.out.set _ _ (.inl hg0))
      have y5s0 : W5.cell? ⟨w.heap.size, 0, none⟩ = some (Value.slice (some ⟨g0, 0, none⟩) hs.length cap0) := Bs5.out.1.2 0 (by simp)
      have y5s1 : W5.cell? ⟨w.heap.size, 1, none⟩ = some (Value.slice (some ⟨g1, 0, none⟩) ds.length cap1) := Bs5.out.1.2 1 (by simp)
      have y5f0 : W5.cell? ⟨w.heap.size + 1, 0, none⟩ = some (.int .i64 (k : Int)) := Bf5.out.1.2 0 (by simp)
      have y5f1 : W5.cell? ⟨w.heap.size + 1, 1, none⟩ = some (.int .i64 1) := Bf5.out.1.2 1 (by simp)
      have y5f2 : W5.cell? ⟨w.heap.size + 1, 2, none⟩ = some (.int .i64 (a : Int)) := Bf5.out.1.2 2 (by simp)
      go_wp2_with fail
      refine (spec_l7Next0 (hs.set ob (layH (k : Int) H)) (ds) _ _ ⟨(k : Int), 1, (a : Int)⟩ 2 _ (ownL.rds O05.out) (ownL.rds O15.out) k rfl hkL.out ⟨ha0, h46.out⟩).mono ?_
      rintro e w9 ⟨rfl, b9⟩
      have BR9 := hid (Br5.out.below b9)
      have O09 := hid (O05.out.keep (w' := w9) fun b hb => b9.block b ((hsz4.out _ C5.out).1 b hb))
      have O19 := hid (O15.out.keep (w' := w9) fun b hb => b9.block b ((hsz4.out _ C5.out).2 b hb))
      have C9 := hid (C5.out.trans (ChgS.of_below b9 _))
      clear b9
      have y9r0 : w9.cell? ⟨w.heap.size + 1 + 1, 0, none⟩ = some (.int .i64 0) := BR9.out.1.2 0 (by simp)
      have z9r0 : w9.frozen? ⟨w.heap.size + 1 + 1, 0, none⟩ = false := BR9.out.2 0 (by simp)
      have y9r1 : w9.cell? ⟨w.heap.size + 1 + 1, 1, none⟩ = some (.int .i64 0) := BR9.out.1.2 1 (by simp)
      have z9r1 : w9.frozen? ⟨w.heap.size + 1 + 1, 1, none⟩ = false := BR9.out.2 1 (by simp)
      have y9r2 : w9.cell? ⟨w.heap.size + 1 + 1, 2, none⟩ = some (.int .i64 0) := BR9.out.1.2 2 (by simp)
      have z9r2 : w9.frozen? ⟨w.heap.size + 1 + 1, 2, none⟩ = false := BR9.out.2 2 (by simp)
      go_wp2_with ((try simp only [Exit.inBlock, Exit.then]); (with_reducible refine bodyPost_ret (v := .tuple #[.agg #[.int .i64 (nextF ds ⟨(k : Int), 1, (a : Int)⟩ 2).desc_, .int .i64 (nextF ds ⟨(k : Int), 1, (a : Int)⟩ 2).phase_, .int .i64 (nextF ds ⟨(k : Int), 1, (a : Int)⟩ 2).at_], .int .i64 (-1)]) ?_ (by exact rfl) ?_); (simp [results, Tryz.results101, go_sem, y9r0, z9r0, y9r1, z9r1, y9r2, z9r2]); (exact ⟨by rw [HF.out, HNv.out], by rw [HHs.out, HDs.out]; exact fin3 O09.out O19.out C9.out hRr.out HS0.out HS1.out _ _ _⟩))
    · have hq3' : (H.version_ != E.version_) = true := by simp [hq3]
      have hq2' : decide (0 ≤ H.desc_) = false := decide_eq_false hq2
      have HHs := hid (show stepH hs ds ⟨(k : Int), 1, (a : Int)⟩ = hs by unfold stepH; dsimp only; rw [if_pos rfl, hcH.out, hcE.out, if_neg (fun h => hq3 h.2.2)])
      have HNv := hid (show stepN hs ds ⟨(k : Int), 1, (a : Int)⟩ = -1 by unfold stepN; dsimp only; rw [hcH.out, if_neg (fun h => hq2 h.2.2)])
      have HF := hid (show stepF hs ds ⟨(k : Int), 1, (a : Int)⟩ = ⟨(k : Int), 3, 0⟩ by unfold stepF; dsimp only; rw [if_neg (by decide), if_pos rfl, hcH.out, hcE.out, if_neg hq, if_neg hq2, if_neg hq3])
      clear hq hq3
      have y4r0 : W4.cell? ⟨w.heap.size + 1 + 1, 0, none⟩ = some (.int .i64 0) := BR4.out.1.2 0 (by simp)
      have z4r0 : W4.frozen? ⟨w.heap.size + 1 + 1, 0, none⟩ = false := BR4.out.2 0 (by simp)
      have y4r1 : W4.cell? ⟨w.heap.size + 1 + 1, 1, none⟩ = some (.int .i64 0) := BR4.out.1.2 1 (by simp)
      have z4r1 : W4.frozen? ⟨w.heap.size + 1 + 1, 1, none⟩ = false := BR4.out.2 1 (by simp)
      have y4r2 : W4.cell? ⟨w.heap.size + 1 + 1, 2, none⟩ = some (.int .i64 0) := BR4.out.1.2 2 (by simp)
      have z4r2 : W4.frozen? ⟨w.heap.size + 1 + 1, 2, none⟩ = false := BR4.out.2 2 (by simp)
      go_wp2_with ((try simp only [Exit.inBlock, Exit.then]); (with_reducible refine bodyPost_ret (v := .tuple #[.agg #[.int .i64 (k : Int), .int .i64 3, .int .i64 0], .int .i64 (-1)]) ?_ (by exact rfl) ?_); (simp [results, Tryz.results101, go_sem, y4r0, z4r0, y4r1, z4r1, y4r2, z4r2]); (exact ⟨by rw [HF.out, HNv.out], by rw [HHs.out, HDs.out]; exact fin3 O04.out O14.out HC4.out hRr.out HS0.out HS1.out _ _ _⟩))
  · have HHs := hid (show stepH hs ds ⟨(k : Int), 2, (a : Int)⟩ = hs by simp [stepH])
    have HNv := hid (show stepN hs ds ⟨(k : Int), 2, (a : Int)⟩ = -1 by simp [stepN])
    have HF := hid (show stepF hs ds ⟨(k : Int), 2, (a : Int)⟩ = ⟨(k : Int), 4, 0⟩ by simp [stepF])
    have HD0 := hid (show stepD ds ⟨(k : Int), 2, (a : Int)⟩ = ds.set k (decD 1 D) by unfold stepD; dsimp only; rw [if_pos rfl, hcD.out, Int.toNat_natCast])
    by_cases hq : D.status_ = 0
    · have HDs := hid (show stepD ds ⟨(k : Int), 2, (a : Int)⟩ = ds.set k ⟨D.owner_, 1, D.entries_⟩ by rw [HD0.out]; unfold decD; rw [if_pos hq])
      have hq' : (D.status_ == 0) = true := by rw [beq_iff_eq]; exact hq
      have xd1 : W4.cell? ⟨g1, k * 3 + 1, none⟩ = some (.int .i64 D.status_) := by obtain ⟨g9, cap9, v9, e9, -, -, -, h9, -⟩ := own_desc O14.out k hk; simp only [Value.slice.injEq, Option.some.injEq, Addr.mk.injEq, and_true, true_and] at e9; obtain ⟨rfl, -⟩ := e9; rw [hDD.out] at h9; exact h9
      have zd1 : W4.frozen? ⟨g1, k * 3 + 1, none⟩ = false := (HB4.out.frozen (p := ⟨g1, k * 3 + 1, none⟩) hgl1).trans (F1.out _)
      clear hq
      obtain ⟨W5, hW5⟩ : ∃ X, W4.setCell ⟨g1, k * 3 + 1, none⟩ (.int .i64 1) = X := ⟨_, rfl⟩
      have Bs5 : Hid (BoxF W5 (w.heap.size) [Value.slice (some ⟨g0, 0, none⟩) hs.length cap0, Value.slice (some ⟨g1, 0, none⟩) ds.length cap1]) := by rw [← hW5]; exact hid (BS4.out.other _ _ qg1s.out)
      have Bf5 : Hid (BoxF W5 (w.heap.size + 1) [.int .i64 (k : Int), .int .i64 2, .int .i64 (a : Int)]) := by rw [← hW5]; exact hid (BF4.out.other _ _ qg1f.out)
      have Br5 : Hid (BoxF W5 (w.heap.size + 1 + 1) [.int .i64 0, .int .i64 0, .int .i64 0]) := by rw [← hW5]; exact hid (BR4.out.other _ _ qg1r.out)
      have Bd5 : Hid (BoxF W5 (W1.heap.size) [.int .i64 D.owner_, .int .i64 D.status_, Value.slice (some ⟨be, off, none⟩) n ecap]) := by rw [← hW5]; exact hid (BD4.out.other _ _ qg1d.out)
      have Be5 : Hid (BoxF W5 (W2.heap.size) [.int .i64 (ob : Int), .int .i64 E.version_, .int .i64 E.old_, .int .i64 E.new_, .bool E.write_]) := by rw [← hW5]; exact hid (BE4.out.other _ _ qg1e.out)
      have Bh5 : Hid (BoxF W5 (W3.heap.size) [.int .i64 H.value_, .int .i64 H.version_, .int .i64 H.desc_]) := by rw [← hW5]; exact hid (BH4.out.other _ _ qg1h.out)
      have O05 : Hid (ownL S0 W5 (Value.slice (some ⟨g0, 0, none⟩) hs.length cap0) (hs)) := by rw [← hW5]; exact hid (own_set O04.out NG0.out)
      have O15 : Hid (ownL S1 W5 (Value.slice (some ⟨g1, 0, none⟩) ds.length cap1) (ds.set k ⟨D.owner_, 1, D.entries_⟩)) := by rw [← hW5]; exact hid (own_desc_set O14.out k hk 1 _ (by rw [hDD.out]))
      have C5 : Hid (ChgS (fun b => S0 b ∨ S1 b) w W5) := by rw [← hW5]; exact hid (HC4.out.set _ _ (.inr hg1))
      have y5f0 : W5.cell? ⟨w.heap.size + 1, 0, none⟩ = some (.int .i64 (k : Int)) := Bf5.out.1.2 0 (by simp)
      have y5f1 : W5.cell? ⟨w.heap.size + 1, 1, none⟩ = some (.int .i64 2) := Bf5.out.1.2 1 (by simp)
      have y5f2 : W5.cell? ⟨w.heap.size + 1, 2, none⟩ = some (.int .i64 (a : Int)) := Bf5.out.1.2 2 (by simp)
      have y5s0 : W5.cell? ⟨w.heap.size, 0, none⟩ = some (Value.slice (some ⟨g0, 0, none⟩) hs.length cap0) := Bs5.out.1.2 0 (by simp)
      have y5s1 : W5.cell? ⟨w.heap.size, 1, none⟩ = some (Value.slice (some ⟨g1, 0, none⟩) ds.length cap1) := Bs5.out.1.2 1 (by simp)
      have y5r0 : W5.cell? ⟨w.heap.size + 1 + 1, 0, none⟩ = some (.int .i64 0) := Br5.out.1.2 0 (by simp)
      have z5r0 : W5.frozen? ⟨w.heap.size + 1 + 1, 0, none⟩ = false := Br5.out.2 0 (by simp)
      have y5r1 : W5.cell? ⟨w.heap.size + 1 + 1, 1, none⟩ = some (.int .i64 0) := Br5.out.1.2 1 (by simp)
      have z5r1 : W5.frozen? ⟨w.heap.size + 1 + 1, 1, none⟩ = false := Br5.out.2 1 (by simp)
      have y5r2 : W5.cell? ⟨w.heap.size + 1 + 1, 2, none⟩ = some (.int .i64 0) := Br5.out.1.2 2 (by simp)
      have z5r2 : W5.frozen? ⟨w.heap.size + 1 + 1, 2, none⟩ = false := Br5.out.2 2 (by simp)
      go_wp2_with ((try simp only [Exit.inBlock, Exit.then]); (with_reducible refine bodyPost_ret (v := .tuple #[.agg #[.int .i64 (k : Int), .int .i64 4, .int .i64 0], .int .i64 (-1)]) ?_ (by exact rfl) ?_); (simp [results, Tryz.results101, go_sem, y5r0, z5r0, y5r1, z5r1, y5r2, z5r2]); (exact ⟨by rw [HF.out, HNv.out], by rw [HHs.out, HDs.out]; exact fin3 O05.out O15.out C5.out hRr.out HS0.out HS1.out _ _ _⟩))
    · have HDs := hid (show stepD ds ⟨(k : Int), 2, (a : Int)⟩ = ds by rw [HD0.out]; unfold decD; rw [if_neg hq, ← hDD.out]; exact List.set_getElem_self hk)
      have hq' : (D.status_ == 0) = false := by rw [beq_eq_false_iff_ne]; exact hq
      clear hq
      have y4r0 : W4.cell? ⟨w.heap.size + 1 + 1, 0, none⟩ = some (.int .i64 0) := BR4.out.1.2 0 (by simp)
      have z4r0 : W4.frozen? ⟨w.heap.size + 1 + 1, 0, none⟩ = false := BR4.out.2 0 (by simp)
      have y4r1 : W4.cell? ⟨w.heap.size + 1 + 1, 1, none⟩ = some (.int .i64 0) := BR4.out.1.2 1 (by simp)
      have z4r1 : W4.frozen? ⟨w.heap.size + 1 + 1, 1, none⟩ = false := BR4.out.2 1 (by simp)
      have y4r2 : W4.cell? ⟨w.heap.size + 1 + 1, 2, none⟩ = some (.int .i64 0) := BR4.out.1.2 2 (by simp)
      have z4r2 : W4.frozen? ⟨w.heap.size + 1 + 1, 2, none⟩ = false := BR4.out.2 2 (by simp)
      go_wp2_with ((try simp only [Exit.inBlock, Exit.then]); (with_reducible refine bodyPost_ret (v := .tuple #[.agg #[.int .i64 (k : Int), .int .i64 4, .int .i64 0], .int .i64 (-1)]) ?_ (by exact rfl) ?_); (simp [results, Tryz.results101, go_sem, y4r0, z4r0, y4r1, z4r1, y4r2, z4r2]); (exact ⟨by rw [HF.out, HNv.out], by rw [HHs.out, HDs.out]; exact fin3 O04.out O14.out HC4.out hRr.out HS0.out HS1.out _ _ _⟩))
  · have HHs := hid (show stepH hs ds ⟨(k : Int), 3, (a : Int)⟩ = hs by simp [stepH])
    have HNv := hid (show stepN hs ds ⟨(k : Int), 3, (a : Int)⟩ = -1 by simp [stepN])
    have HF := hid (show stepF hs ds ⟨(k : Int), 3, (a : Int)⟩ = ⟨(k : Int), 4, 0⟩ by simp [stepF])
    have HD0 := hid (show stepD ds ⟨(k : Int), 3, (a : Int)⟩ = ds.set k (decD 2 D) by unfold stepD; dsimp only; rw [if_neg (by decide), if_pos rfl, hcD.out, Int.toNat_natCast])
    by_cases hq : D.status_ = 0
    · have HDs := hid (show stepD ds ⟨(k : Int), 3, (a : Int)⟩ = ds.set k ⟨D.owner_, 2, D.entries_⟩ by rw [HD0.out]; unfold decD; rw [if_pos hq])
      have hq' : (D.status_ == 0) = true := by rw [beq_iff_eq]; exact hq
      have xd1 : W4.cell? ⟨g1, k * 3 + 1, none⟩ = some (.int .i64 D.status_) := by obtain ⟨g9, cap9, v9, e9, -, -, -, h9, -⟩ := own_desc O14.out k hk; simp only [Value.slice.injEq, Option.some.injEq, Addr.mk.injEq, and_true, true_and] at e9; obtain ⟨rfl, -⟩ := e9; rw [hDD.out] at h9; exact h9
      have zd1 : W4.frozen? ⟨g1, k * 3 + 1, none⟩ = false := (HB4.out.frozen (p := ⟨g1, k * 3 + 1, none⟩) hgl1).trans (F1.out _)
      clear hq
      obtain ⟨W5, hW5⟩ : ∃ X, W4.setCell ⟨g1, k * 3 + 1, none⟩ (.int .i64 1) = X := ⟨_, rfl⟩
      have Bs5 : Hid (BoxF W5 (w.heap.size) [Value.slice (some ⟨g0, 0, none⟩) hs.length cap0, Value.slice (some ⟨g1, 0, none⟩) ds.length cap1]) := by rw [← hW5]; exact hid (BS4.out.other _ _ qg1s.out)
      have Bf5 : Hid (BoxF W5 (w.heap.size + 1) [.int .i64 (k : Int), .int .i64 3, .int .i64 (a : Int)]) := by rw [← hW5]; exact hid (BF4.out.other _ _ qg1f.out)
      have Br5 : Hid (BoxF W5 (w.heap.size + 1 + 1) [.int .i64 0, .int .i64 0, .int .i64 0]) := by rw [← hW5]; exact hid (BR4.out.other _ _ qg1r.out)
      have Bd5 : Hid (BoxF W5 (W1.heap.size) [.int .i64 D.owner_, .int .i64 D.status_, Value.slice (some ⟨be, off, none⟩) n ecap]) := by rw [← hW5]; exact hid (BD4.out.other _ _ qg1d.out)
      have Be5 : Hid (BoxF W5 (W2.heap.size) [.int .i64 (ob : Int), .int .i64 E.version_, .int .i64 E.old_, .int .i64 E.new_, .bool E.write_]) := by rw [← hW5]; exact hid (BE4.out.other _ _ qg1e.out)
      have Bh5 : Hid (BoxF W5 (W3.heap.size) [.int .i64 H.value_, .int .i64 H.version_, .int .i64 H.desc_]) := by rw [← hW5]; exact hid (BH4.out.other _ _ qg1h.out)
      have O05 : Hid (ownL S0 W5 (Value.slice (some ⟨g0, 0, none⟩) hs.length cap0) (hs)) := by rw [← hW5]; exact hid (own_set O04.out NG0.out)
      have O15 : Hid (ownL S1 W5 (Value.slice (some ⟨g1, 0, none⟩) ds.length cap1) (ds.set k ⟨D.owner_, 1, D.entries_⟩)) := by rw [← hW5]; exact hid (own_desc_set O14.out k hk 1 _ (by rw [hDD.out]))
      have C5 : Hid (ChgS (fun b => S0 b ∨ S1 b) w W5) := by rw [← hW5]; exact hid (HC4.out.set _ _ (.inr hg1))
      have y5f0 : W5.cell? ⟨w.heap.size + 1, 0, none⟩ = some (.int .i64 (k : Int)) := Bf5.out.1.2 0 (by simp)
      have y5f1 : W5.cell? ⟨w.heap.size + 1, 1, none⟩ = some (.int .i64 3) := Bf5.out.1.2 1 (by simp)
      have y5f2 : W5.cell? ⟨w.heap.size + 1, 2, none⟩ = some (.int .i64 (a : Int)) := Bf5.out.1.2 2 (by simp)
      have y5s0 : W5.cell? ⟨w.heap.size, 0, none⟩ = some (Value.slice (some ⟨g0, 0, none⟩) hs.length cap0) := Bs5.out.1.2 0 (by simp)
      have y5s1 : W5.cell? ⟨w.heap.size, 1, none⟩ = some (Value.slice (some ⟨g1, 0, none⟩) ds.length cap1) := Bs5.out.1.2 1 (by simp)
      have xd2 : W5.cell? ⟨g1, k * 3 + 1, none⟩ = some (.int .i64 1) := by rw [← hW5]; exact World.cell?_setCell_same _ _ _ xd1
      have zd2 : W5.frozen? ⟨g1, k * 3 + 1, none⟩ = false := by rw [← hW5, World.frozen?_setCell]; exact zd1
      have hkl2 : k < (ds.set k ⟨D.owner_, 1, D.entries_⟩).length := by rw [List.length_set]; exact hk
      obtain ⟨W6, hW6⟩ : ∃ X, W5.setCell ⟨g1, k * 3 + 1, none⟩ (.int .i64 2) = X := ⟨_, rfl⟩
      have Bs6 : Hid (BoxF W6 (w.heap.size) [Value.slice (some ⟨g0, 0, none⟩) hs.length cap0, Value.slice (some ⟨g1, 0, none⟩) ds.length cap1]) := by rw [← hW6]; exact hid (Bs5.out.other _ _ qg1s.out)
      have Bf6 : Hid (BoxF W6 (w.heap.size + 1) [.int .i64 (k : Int), .int .i64 3, .int .i64 (a : Int)]) := by rw [← hW6]; exact hid (Bf5.out.other _ _ qg1f.out)
      have Br6 : Hid (BoxF W6 (w.heap.size + 1 + 1) [.int .i64 0, .int .i64 0, .int .i64 0]) := by rw [← hW6]; exact hid (Br5.out.other _ _ qg1r.out)
      have Bd6 : Hid (BoxF W6 (W1.heap.size) [.int .i64 D.owner_, .int .i64 D.status_, Value.slice (some ⟨be, off, none⟩) n ecap]) := by rw [← hW6]; exact hid (Bd5.out.other _ _ qg1d.out)
      have Be6 : Hid (BoxF W6 (W2.heap.size) [.int .i64 (ob : Int), .int .i64 E.version_, .int .i64 E.old_, .int .i64 E.new_, .bool E.write_]) := by rw [← hW6]; exact hid (Be5.out.other _ _ qg1e.out)
      have Bh6 : Hid (BoxF W6 (W3.heap.size) [.int .i64 H.value_, .int .i64 H.version_, .int .i64 H.desc_]) := by rw [← hW6]; exact hid (Bh5.out.other _ _ qg1h.out)
      have O06 : Hid (ownL S0 W6 (Value.slice (some ⟨g0, 0, none⟩) hs.length cap0) (hs)) := by rw [← hW6]; exact hid (own_set O05.out NG0.out)
      have O16 : Hid (ownL S1 W6 (Value.slice (some ⟨g1, 0, none⟩) ds.length cap1) (ds.set k ⟨D.owner_, 2, D.entries_⟩)) := by rw [← hW6]; exact hid (by have h9 := own_desc_set O15.out k hkl2 2 ⟨D.owner_, 2, D.entries_⟩ (by simp); rw [List.set_set] at h9; exact h9)
      have C6 : Hid (ChgS (fun b => S0 b ∨ S1 b) w W6) := by rw [← hW6]; exact hid (C5.out.set _ _ (.inr hg1))
      have y6f0 : W6.cell? ⟨w.heap.size + 1, 0, none⟩ = some (.int .i64 (k : Int)) := Bf6.out.1.2 0 (by simp)
      have y6f1 : W6.cell? ⟨w.heap.size + 1, 1, none⟩ = some (.int .i64 3) := Bf6.out.1.2 1 (by simp)
      have y6f2 : W6.cell? ⟨w.heap.size + 1, 2, none⟩ = some (.int .i64 (a : Int)) := Bf6.out.1.2 2 (by simp)
      have y6r0 : W6.cell? ⟨w.heap.size + 1 + 1, 0, none⟩ = some (.int .i64 0) := Br6.out.1.2 0 (by simp)
      have z6r0 : W6.frozen? ⟨w.heap.size + 1 + 1, 0, none⟩ = false := Br6.out.2 0 (by simp)
      have y6r1 : W6.cell? ⟨w.heap.size + 1 + 1, 1, none⟩ = some (.int .i64 0) := Br6.out.1.2 1 (by simp)
      have z6r1 : W6.frozen? ⟨w.heap.size + 1 + 1, 1, none⟩ = false := Br6.out.2 1 (by simp)
      have y6r2 : W6.cell? ⟨w.heap.size + 1 + 1, 2, none⟩ = some (.int .i64 0) := Br6.out.1.2 2 (by simp)
      have z6r2 : W6.frozen? ⟨w.heap.size + 1 + 1, 2, none⟩ = false := Br6.out.2 2 (by simp)
      go_wp2_with ((try simp only [Exit.inBlock, Exit.then]); (with_reducible refine bodyPost_ret (v := .tuple #[.agg #[.int .i64 (k : Int), .int .i64 4, .int .i64 0], .int .i64 (-1)]) ?_ (by exact rfl) ?_); (simp [results, Tryz.results101, go_sem, y6r0, z6r0, y6r1, z6r1, y6r2, z6r2]); (exact ⟨by rw [HF.out, HNv.out], by rw [HHs.out, HDs.out]; exact fin3 O06.out O16.out C6.out hRr.out HS0.out HS1.out _ _ _⟩))
    · have HDs := hid (show stepD ds ⟨(k : Int), 3, (a : Int)⟩ = ds by rw [HD0.out]; unfold decD; rw [if_neg hq, ← hDD.out]; exact List.set_getElem_self hk)
      have hq' : (D.status_ == 0) = false := by rw [beq_eq_false_iff_ne]; exact hq
      clear hq
      have y4r0 : W4.cell? ⟨w.heap.size + 1 + 1, 0, none⟩ = some (.int .i64 0) := BR4.out.1.2 0 (by simp)
      have z4r0 : W4.frozen? ⟨w.heap.size + 1 + 1, 0, none⟩ = false := BR4.out.2 0 (by simp)
      have y4r1 : W4.cell? ⟨w.heap.size + 1 + 1, 1, none⟩ = some (.int .i64 0) := BR4.out.1.2 1 (by simp)
      have z4r1 : W4.frozen? ⟨w.heap.size + 1 + 1, 1, none⟩ = false := BR4.out.2 1 (by simp)
      have y4r2 : W4.cell? ⟨w.heap.size + 1 + 1, 2, none⟩ = some (.int .i64 0) := BR4.out.1.2 2 (by simp)
      have z4r2 : W4.frozen? ⟨w.heap.size + 1 + 1, 2, none⟩ = false := BR4.out.2 2 (by simp)
      go_wp2_with ((try simp only [Exit.inBlock, Exit.then]); (with_reducible refine bodyPost_ret (v := .tuple #[.agg #[.int .i64 (k : Int), .int .i64 4, .int .i64 0], .int .i64 (-1)]) ?_ (by exact rfl) ?_); (simp [results, Tryz.results101, go_sem, y4r0, z4r0, y4r1, z4r1, y4r2, z4r2]); (exact ⟨by rw [HF.out, HNv.out], by rw [HHs.out, HDs.out]; exact fin3 O04.out O14.out HC4.out hRr.out HS0.out HS1.out _ _ _⟩))
  · have HDs := hid (show stepD ds ⟨(k : Int), 4, (a : Int)⟩ = ds by simp [stepD])
    have HNv := hid (show stepN hs ds ⟨(k : Int), 4, (a : Int)⟩ = -1 by simp [stepN])
    have HF := hid (show stepF hs ds ⟨(k : Int), 4, (a : Int)⟩ = nextF ds ⟨(k : Int), 4, (a : Int)⟩ 5 by simp [stepF])
    by_cases hq : H.desc_ = (k : Int)
    · have hq' : (H.desc_ == (k : Int)) = true := by rw [beq_iff_eq]; exact hq
      have HH0 := hid (show stepH hs ds ⟨(k : Int), 4, (a : Int)⟩ = hs.set ob (freeH D.status_ E H) by unfold stepH; dsimp only; rw [if_neg (by decide), if_pos rfl, hcH.out, hcE.out, hcO.out, hcD.out, if_pos hq, Int.toNat_natCast])
      clear hq
      have hv0 : 0 ≤ H.version_ := hver.1
      have hv1 : H.version_ ≤ 1000000 := hver.2
      have HV := hid hver
      clear hver
      by_cases hc : D.status_ = 1 ∧ E.write_ = true
      · have HHs := hid (show stepH hs ds ⟨(k : Int), 4, (a : Int)⟩ = hs.set ob ⟨E.new_, (H.version_ + 1) % 1000001, -1⟩ by rw [HH0.out]; unfold freeH; rw [if_pos hc])
        have hc1 : (D.status_ == 1) = true := by rw [beq_iff_eq]; exact hc.1
        have hc2 : E.write_ = true := hc.2
        have hrem : Int.tmod (H.version_ + 1) 1000001 = (H.version_ + 1) % 1000001 := Int.tmod_eq_emod_of_nonneg (by omega)
        clear hc
        have zh2 : W4.frozen? ⟨W3.heap.size, 2, none⟩ = false := BH4.out.2 2 (by simp)
        obtain ⟨W5, hW5⟩ : ∃ X, W4.setCell ⟨W3.heap.size, 2, none⟩ (.int .i64 (-1)) = X := ⟨_, rfl⟩
        have Bs5 : Hid (BoxF W5 (w.heap.size) [Value.slice (some ⟨g0, 0, none⟩) hs.length cap0, Value.slice (some ⟨g1, 0, none⟩) ds.length cap1]) := by rw [← hW5]; exact hid (BS4.out.other _ _ qhs.out)
        have Bf5 : Hid (BoxF W5 (w.heap.size + 1) [.int .i64 (k : Int), .int .i64 4, .int .i64 (a : Int)]) := by rw [← hW5]; exact hid (BF4.out.other _ _ qhf.out)
        have Br5 : Hid (BoxF W5 (w.heap.size + 1 + 1) [.int .i64 0, .int .i64 0, .int .i64 0]) := by rw [← hW5]; exact hid (BR4.out.other _ _ qhr.out)
        have Bd5 : Hid (BoxF W5 (W1.heap.size) [.int .i64 D.owner_, .int .i64 D.status_, Value.slice (some ⟨be, off, none⟩) n ecap]) := by rw [← hW5]; exact hid (BD4.out.other _ _ qhd.out)
        have Be5 : Hid (BoxF W5 (W2.heap.size) [.int .i64 (ob : Int), .int .i64 E.version_, .int .i64 E.old_, .int .i64 E.new_, .bool E.write_]) := by rw [← hW5]; exact hid (BE4.out.other _ _ qhe.out)
        have Bh5 : Hid (BoxF W5 (W3.heap.size) [.int .i64 H.value_, .int .i64 H.version_, .int .i64 (-1)]) := by rw [← hW5]; exact hid (BH4.out.set 2 (by simp) _)
        have O05 : Hid (ownL S0 W5 (Value.slice (some ⟨g0, 0, none⟩) hs.length cap0) (hs)) := by rw [← hW5]; exact hid (own_set O04.out NB0.out)
        have O15 : Hid (ownL S1 W5 (Value.slice (some ⟨g1, 0, none⟩) ds.length cap1) (ds)) := by rw [← hW5]; exact hid (own_set O14.out NB1.out)
        have C5 : Hid (ChgS (fun b => S0 b ∨ S1 b) w W5) := by rw [← hW5]; exact hid (HC4.out.setNew _ _ hWh.out)
        have y5d1 : W5.cell? ⟨W1.heap.size, 1, none⟩ = some (.int .i64 D.status_) := Bd5.out.1.2 1 (by simp)
        have y5e0 : W5.cell? ⟨W2.heap.size, 0, none⟩ = some (.int .i64 (ob : Int)) := Be5.out.1.2 0 (by simp)
        have y5e3 : W5.cell? ⟨W2.heap.size, 3, none⟩ = some (.int .i64 E.new_) := Be5.out.1.2 3 (by simp)
        have y5e4 : W5.cell? ⟨W2.heap.size, 4, none⟩ = some (.bool E.write_) := Be5.out.1.2 4 (by simp)
        have y5s0 : W5.cell? ⟨w.heap.size, 0, none⟩ = some (Value.slice (some ⟨g0, 0, none⟩) hs.length cap0) := Bs5.out.1.2 0 (by simp)
        have y5s1 : W5.cell? ⟨w.heap.size, 1, none⟩ = some (Value.slice (some ⟨g1, 0, none⟩) ds.length cap1) := Bs5.out.1.2 1 (by simp)
        have y5h0 : W5.cell? ⟨W3.heap.size, 0, none⟩ = some (.int .i64 H.value_) := Bh5.out.1.2 0 (by simp)
        have z5h0 : W5.frozen? ⟨W3.heap.size, 0, none⟩ = false := Bh5.out.2 0 (by simp)
        have y5h1 : W5.cell? ⟨W3.heap.size, 1, none⟩ = some (.int .i64 H.version_) := Bh5.out.1.2 1 (by simp)
        have z5h1 : W5.frozen? ⟨W3.heap.size, 1, none⟩ = false := Bh5.out.2 1 (by simp)
        have y5h2 : W5.cell? ⟨W3.heap.size, 2, none⟩ = some (.int .i64 (-1)) := Bh5.out.1.2 2 (by simp)
        have z5h2 : W5.frozen? ⟨W3.heap.size, 2, none⟩ = false := Bh5.out.2 2 (by simp)
        obtain ⟨W6, hW6⟩ : ∃ X, W5.setCell ⟨W3.heap.size, 0, none⟩ (.int .i64 E.new_) = X := ⟨_, rfl⟩
        have Bs6 : Hid (BoxF W6 (w.heap.size) [Value.slice (some ⟨g0, 0, none⟩) hs.length cap0, Value.slice (some ⟨g1, 0, none⟩) ds.length cap1]) := by rw [← hW6]; exact hid (Bs5.out.other _ _ qhs.out)
        have Bf6 : Hid (BoxF W6 (w.heap.size + 1) [.int .i64 (k : Int), .int .i64 4, .int .i64 (a : Int)]) := by rw [← hW6]; exact hid (Bf5.out.other _ _ qhf.out)
        have Br6 : Hid (BoxF W6 (w.heap.size + 1 + 1) [.int .i64 0, .int .i64 0, .int .i64 0]) := by rw [← hW6]; exact hid (Br5.out.other _ _ qhr.out)
        have Bd6 : Hid (BoxF W6 (W1.heap.size) [.int .i64 D.owner_, .int .i64 D.status_, Value.slice (some ⟨be, off, none⟩) n ecap]) := by rw [← hW6]; exact hid (Bd5.out.other _ _ qhd.out)
        have Be6 : Hid (BoxF W6 (W2.heap.size) [.int .i64 (ob : Int), .int .i64 E.version_, .int .i64 E.old_, .int .i64 E.new_, .bool E.write_]) := by rw [← hW6]; exact hid (Be5.out.other _ _ qhe.out)
        have Bh6 : Hid (BoxF W6 (W3.heap.size) [.int .i64 E.new_, .int .i64 H.version_, .int .i64 (-1)]) := by rw [← hW6]; exact hid (Bh5.out.set 0 (by simp) _)
        have O06 : Hid (ownL S0 W6 (Value.slice (some ⟨g0, 0, none⟩) hs.length cap0) (hs)) := by rw [← hW6]; exact hid (own_set O05.out NB0.out)
        have O16 : Hid (ownL S1 W6 (Value.slice (some ⟨g1, 0, none⟩) ds.length cap1) (ds)) := by rw [← hW6]; exact hid (own_set O15.out NB1.out)
        have C6 : Hid (ChgS (fun b => S0 b ∨ S1 b) w W6) := by rw [← hW6]; exact hid (C5.out.setNew _ _ hWh.out)
        have y6h0 : W6.cell? ⟨W3.heap.size, 0, none⟩ = some (.int .i64 E.new_) := Bh6.out.1.2 0 (by simp)
        have z6h0 : W6.frozen? ⟨W3.heap.size, 0, none⟩ = false := Bh6.out.2 0 (by simp)
        have y6h1 : W6.cell? ⟨W3.heap.size, 1, none⟩ = some (.int .i64 H.version_) := Bh6.out.1.2 1 (by simp)
        have z6h1 : W6.frozen? ⟨W3.heap.size, 1, none⟩ = false := Bh6.out.2 1 (by simp)
        have y6h2 : W6.cell? ⟨W3.heap.size, 2, none⟩ = some (.int .i64 (-1)) := Bh6.out.1.2 2 (by simp)
        have z6h2 : W6.frozen? ⟨W3.heap.size, 2, none⟩ = false := Bh6.out.2 2 (by simp)
        obtain ⟨W7, hW7⟩ : ∃ X, W6.setCell ⟨W3.heap.size, 1, none⟩ (.int .i64 ((H.version_ + 1) % 1000001)) = X := ⟨_, rfl⟩
        have Bs7 : Hid (BoxF W7 (w.heap.size) [Value.slice (some ⟨g0, 0, none⟩) hs.length cap0, Value.slice (some ⟨g1, 0, none⟩) ds.length cap1]) := by rw [← hW7]; exact hid (Bs6.out.other _ _ qhs.out)
        have Bf7 : Hid (BoxF W7 (w.heap.size + 1) [.int .i64 (k : Int), .int .i64 4, .int .i64 (a : Int)]) := by rw [← hW7]; exact hid (Bf6.out.other _ _ qhf.out)
        have Br7 : Hid (BoxF W7 (w.heap.size + 1 + 1) [.int .i64 0, .int .i64 0, .int .i64 0]) := by rw [← hW7]; exact hid (Br6.out.other _ _ qhr.out)
        have Bd7 : Hid (BoxF W7 (W1.heap.size) [.int .i64 D.owner_, .int .i64 D.status_, Value.slice (some ⟨be, off, none⟩) n ecap]) := by rw [← hW7]; exact hid (Bd6.out.other _ _ qhd.out)
        have Be7 : Hid (BoxF W7 (W2.heap.size) [.int .i64 (ob : Int), .int .i64 E.version_, .int .i64 E.old_, .int .i64 E.new_, .bool E.write_]) := by rw [← hW7]; exact hid (Be6.out.other _ _ qhe.out)
        have Bh7 : Hid (BoxF W7 (W3.heap.size) [.int .i64 E.new_, .int .i64 ((H.version_ + 1) % 1000001), .int .i64 (-1)]) := by rw [← hW7]; exact hid (Bh6.out.set 1 (by simp) _)
        have O07 : Hid (ownL S0 W7 (Value.slice (some ⟨g0, 0, none⟩) hs.length cap0) (hs)) := by rw [← hW7]; exact hid (own_set O06.out NB0.out)
        have O17 : Hid (ownL S1 W7 (Value.slice (some ⟨g1, 0, none⟩) ds.length cap1) (ds)) := by rw [← hW7]; exact hid (own_set O16.out NB1.out)
        have C7 : Hid (ChgS (fun b => S0 b ∨ S1 b) w W7) := by rw [← hW7]; exact hid (C6.out.setNew _ _ hWh.out)
        have y7h0 : W7.cell? ⟨W3.heap.size, 0, none⟩ = some (.int .i64 E.new_) := Bh7.out.1.2 0 (by simp)
        have y7h1 : W7.cell? ⟨W3.heap.size, 1, none⟩ = some (.int .i64 ((H.version_ + 1) % 1000001)) := Bh7.out.1.2 1 (by simp)
        have y7h2 : W7.cell? ⟨W3.heap.size, 2, none⟩ = some (.int .i64 (-1)) := Bh7.out.1.2 2 (by simp)
        have y7e0 : W7.cell? ⟨W2.heap.size, 0, none⟩ = some (.int .i64 (ob : Int)) := Be7.out.1.2 0 (by simp)
        have y7s0 : W7.cell? ⟨w.heap.size, 0, none⟩ = some (Value.slice (some ⟨g0, 0, none⟩) hs.length cap0) := Bs7.out.1.2 0 (by simp)
        have y7s1 : W7.cell? ⟨w.heap.size, 1, none⟩ = some (Value.slice (some ⟨g1, 0, none⟩) ds.length cap1) := Bs7.out.1.2 1 (by simp)
        have xg0 : W7.cell? ⟨g0, ob * 3 + 0, none⟩ = some (.int .i64 H.value_) := by obtain ⟨g9, cap9, e9, -, -, h90, h91, h92, -⟩ := own_head O07.out ob hoh; simp only [Value.slice.injEq, Option.some.injEq, Addr.mk.injEq, and_true, true_and] at e9; obtain ⟨rfl, -⟩ := e9; rw [hHH.out] at h90 h91 h92; exact h90
        have xg1 : W7.cell? ⟨g0, ob * 3 + 1, none⟩ = some (.int .i64 H.version_) := by obtain ⟨g9, cap9, e9, -, -, h90, h91, h92, -⟩ := own_head O07.out ob hoh; simp only [Value.slice.injEq, Option.some.injEq, Addr.mk.injEq, and_true, true_and] at e9; obtain ⟨rfl, -⟩ := e9; rw [hHH.out] at h90 h91 h92; exact h91
        have xg2 : W7.cell? ⟨g0, ob * 3 + 2, none⟩ = some (.int .i64 H.desc_) := by obtain ⟨g9, cap9, e9, -, -, h90, h91, h92, -⟩ := own_head O07.out ob hoh; simp only [Value.slice.injEq, Option.some.injEq, Addr.mk.injEq, and_true, true_and] at e9; obtain ⟨rfl, -⟩ := e9; rw [hHH.out] at h90 h91 h92; exact h92
        have zg : ∀ j, W7.frozen? ⟨g0, j, none⟩ = false := by obtain ⟨g9, cap9, e9, -, -, -, -, -, h9⟩ := own_head O07.out ob hoh; simp only [Value.slice.injEq, Option.some.injEq, Addr.mk.injEq, and_true, true_and] at e9; obtain ⟨rfl, -⟩ := e9; exact h9
        have zg0 := zg (ob * 3)
        have zg1 := zg (ob * 3 + 1)
        have zg2 := zg (ob * 3 + 2)
        clear zg
        replace xg0 : W7.cell? ⟨g0, ob * 3, none⟩ = some (.int .i64 H.value_) := xg0
        obtain ⟨W8, hW8⟩ : ∃ X, ((W7.setCell ⟨g0, ob * 3, none⟩ (.int .i64 E.new_)).setCell ⟨g0, ob * 3 + 1, none⟩ (.int .i64 ((H.version_ + 1) % 1000001))).setCell ⟨g0, ob * 3 + 2, none⟩ (.int .i64 (-1)) = X := ⟨_, rfl⟩
        have Bs8 : Hid (BoxF W8 (w.heap.size) [Value.slice (some ⟨g0, 0, none⟩) hs.length cap0, Value.slice (some ⟨g1, 0, none⟩) ds.length cap1]) := by rw [← hW8]; exact hid (((Bs7.out.other _ _ qg0s.out).other _ _ qg0s.out).other _ _ qg0s.out)
        have Bf8 : Hid (BoxF W8 (w.heap.size + 1) [.int .i64 (k : Int), .int .i64 4, .int .i64 (a : Int)]) := by rw [← hW8]; exact hid (((Bf7.out.other _ _ qg0f.out).other _ _ qg0f.out).other _ _ qg0f.out)
        have Br8 : Hid (BoxF W8 (w.heap.size + 1 + 1) [.int .i64 0, .int .i64 0, .int .i64 0]) := by rw [← hW8]; exact hid (((Br7.out.other _ _ qg0r.out).other _ _ qg0r.out).other _ _ qg0r.out)
        have O08 : Hid (ownL S0 W8 (Value.slice (some ⟨g0, 0, none⟩) hs.length cap0) (hs.set ob ⟨E.new_, (H.version_ + 1) % 1000001, -1⟩)) := by
          rw [← hW8]
          have h1 := own_head_set O07.out ob hoh 0 (by omega) (.int .i64 E.new_) ⟨E.new_, H.version_, H.desc_⟩ (by rw [hHH.out]; rfl)
          have h2 := own_head_set h1 ob (by rw [List.length_set]; exact hoh) 1 (by omega) (.int .i64 ((H.version_ + 1) % 1000001)) ⟨E.new_, ((H.version_ + 1) % 1000001), H.desc_⟩ (by rw [List.getElem_set_self]; rfl)
          have h3 := own_head_set h2 ob (by rw [List.length_set, List.length_set]; exact hoh) 2 (by omega) (.int .i64 (-1)) ⟨E.new_, ((H.version_ + 1) % 1000001), (-1)⟩ (by rw [List.getElem_set_self]; rfl)
          rw [List.set_set, List.set_set] at h3
          exact hid h3
        have O18 : Hid (ownL S1 W8 (Value.slice (some ⟨g1, 0, none⟩) ds.length cap1) ds) := by rw [← hW8]; exact hid (own_set (own_set (own_set O17.out NG1.out) NG1.out) NG1.out)
        have C8 : Hid (ChgS (fun b => S0 b ∨ S1 b) w W8) := by rw [← hW8]; exact hid (((C7.out.set _ _ (.inl hg0)).set _ _ (.inl hg0)).set _ _ (.inl hg0))
        have y8s0 : W8.cell? ⟨w.heap.size, 0, none⟩ = some (Value.slice (some ⟨g0, 0, none⟩) hs.length cap0) := Bs8.out.1.2 0 (by simp)
        have y8s1 : W8.cell? ⟨w.heap.size, 1, none⟩ = some (Value.slice (some ⟨g1, 0, none⟩) ds.length cap1) := Bs8.out.1.2 1 (by simp)
        have y8f0 : W8.cell? ⟨w.heap.size + 1, 0, none⟩ = some (.int .i64 (k : Int)) := Bf8.out.1.2 0 (by simp)
        have y8f1 : W8.cell? ⟨w.heap.size + 1, 1, none⟩ = some (.int .i64 4) := Bf8.out.1.2 1 (by simp)
        have y8f2 : W8.cell? ⟨w.heap.size + 1, 2, none⟩ = some (.int .i64 (a : Int)) := Bf8.out.1.2 2 (by simp)
        go_wp2_with fail
        refine (spec_l7Next0 (hs.set ob ⟨E.new_, (H.version_ + 1) % 1000001, -1⟩) (ds) _ _ ⟨(k : Int), 4, (a : Int)⟩ 5 _ (ownL.rds O08.out) (ownL.rds O18.out) k rfl hkL.out ⟨ha0, h46.out⟩).mono ?_
        rintro e w9 ⟨rfl, b9⟩
        have BR9 := hid (Br8.out.below b9)
        have O09 := hid (O08.out.keep (w' := w9) fun b hb => b9.block b ((hsz4.out _ C8.out).1 b hb))
        have O19 := hid (O18.out.keep (w' := w9) fun b hb => b9.block b ((hsz4.out _ C8.out).2 b hb))
        have C9 := hid (C8.out.trans (ChgS.of_below b9 _))
        clear b9
        have y9r0 : w9.cell? ⟨w.heap.size + 1 + 1, 0, none⟩ = some (.int .i64 0) := BR9.out.1.2 0 (by simp)
        have z9r0 : w9.frozen? ⟨w.heap.size + 1 + 1, 0, none⟩ = false := BR9.out.2 0 (by simp)
        have y9r1 : w9.cell? ⟨w.heap.size + 1 + 1, 1, none⟩ = some (.int .i64 0) := BR9.out.1.2 1 (by simp)
        have z9r1 : w9.frozen? ⟨w.heap.size + 1 + 1, 1, none⟩ = false := BR9.out.2 1 (by simp)
        have y9r2 : w9.cell? ⟨w.heap.size + 1 + 1, 2, none⟩ = some (.int .i64 0) := BR9.out.1.2 2 (by simp)
        have z9r2 : w9.frozen? ⟨w.heap.size + 1 + 1, 2, none⟩ = false := BR9.out.2 2 (by simp)
        go_wp2_with ((try simp only [Exit.inBlock, Exit.then]); (with_reducible refine bodyPost_ret (v := .tuple #[.agg #[.int .i64 (nextF ds ⟨(k : Int), 4, (a : Int)⟩ 5).desc_, .int .i64 (nextF ds ⟨(k : Int), 4, (a : Int)⟩ 5).phase_, .int .i64 (nextF ds ⟨(k : Int), 4, (a : Int)⟩ 5).at_], .int .i64 (-1)]) ?_ (by exact rfl) ?_); (simp [results, Tryz.results101, go_sem, y9r0, z9r0, y9r1, z9r1, y9r2, z9r2]); (exact ⟨by rw [HF.out, HNv.out], by rw [HHs.out, HDs.out]; exact fin3 O09.out O19.out C9.out hRr.out HS0.out HS1.out _ _ _⟩))
      · have HHs := hid (show stepH hs ds ⟨(k : Int), 4, (a : Int)⟩ = hs.set ob ⟨H.value_, H.version_, -1⟩ by rw [HH0.out]; unfold freeH; rw [if_neg hc])
        by_cases hc1 : D.status_ = 1
        · have hc2 : E.write_ = false := by cases h : E.write_; rfl; exact absurd ⟨hc1, h⟩ hc
          have hc1' : (D.status_ == 1) = true := by rw [beq_iff_eq]; exact hc1
          clear hc hc1
          have zh2 : W4.frozen? ⟨W3.heap.size, 2, none⟩ = false := BH4.out.2 2 (by simp)
          obtain ⟨W5, hW5⟩ : ∃ X, W4.setCell ⟨W3.heap.size, 2, none⟩ (.int .i64 (-1)) = X := ⟨_, rfl⟩
          have Bs5 : Hid (BoxF W5 (w.heap.size) [Value.slice (some ⟨g0, 0, none⟩) hs.length cap0, Value.slice (some ⟨g1, 0, none⟩) ds.length cap1]) := by rw [← hW5]; exact hid (BS4.out.other _ _ qhs.out)
          have Bf5 : Hid (BoxF W5 (w.heap.size + 1) [.int .i64 (k : Int), .int .i64 4, .int .i64 (a : Int)]) := by rw [← hW5]; exact hid (BF4.out.other _ _ qhf.out)
          have Br5 : Hid (BoxF W5 (w.heap.size + 1 + 1) [.int .i64 0, .int .i64 0, .int .i64 0]) := by rw [← hW5]; exact hid (BR4.out.other _ _ qhr.out)
          have Bd5 : Hid (BoxF W5 (W1.heap.size) [.int .i64 D.owner_, .int .i64 D.status_, Value.slice (some ⟨be, off, none⟩) n ecap]) := by rw [← hW5]; exact hid (BD4.out.other _ _ qhd.out)
          have Be5 : Hid (BoxF W5 (W2.heap.size) [.int .i64 (ob : Int), .int .i64 E.version_, .int .i64 E.old_, .int .i64 E.new_, .bool E.write_]) := by rw [← hW5]; exact hid (BE4.out.other _ _ qhe.out)
          have Bh5 : Hid (BoxF W5 (W3.heap.size) [.int .i64 H.value_, .int .i64 H.version_, .int .i64 (-1)]) := by rw [← hW5]; exact hid (BH4.out.set 2 (by simp) _)
          have O05 : Hid (ownL S0 W5 (Value.slice (some ⟨g0, 0, none⟩) hs.length cap0) (hs)) := by rw [← hW5]; exact hid (own_set O04.out NB0.out)
          have O15 : Hid (ownL S1 W5 (Value.slice (some ⟨g1, 0, none⟩) ds.length cap1) (ds)) := by rw [← hW5]; exact hid (own_set O14.out NB1.out)
          have C5 : Hid (ChgS (fun b => S0 b ∨ S1 b) w W5) := by rw [← hW5]; exact hid (HC4.out.setNew _ _ hWh.out)
          have y5d1 : W5.cell? ⟨W1.heap.size, 1, none⟩ = some (.int .i64 D.status_) := Bd5.out.1.2 1 (by simp)
          have y5e0 : W5.cell? ⟨W2.heap.size, 0, none⟩ = some (.int .i64 (ob : Int)) := Be5.out.1.2 0 (by simp)
          have y5e3 : W5.cell? ⟨W2.heap.size, 3, none⟩ = some (.int .i64 E.new_) := Be5.out.1.2 3 (by simp)
          have y5e4 : W5.cell? ⟨W2.heap.size, 4, none⟩ = some (.bool E.write_) := Be5.out.1.2 4 (by simp)
          have y5s0 : W5.cell? ⟨w.heap.size, 0, none⟩ = some (Value.slice (some ⟨g0, 0, none⟩) hs.length cap0) := Bs5.out.1.2 0 (by simp)
          have y5s1 : W5.cell? ⟨w.heap.size, 1, none⟩ = some (Value.slice (some ⟨g1, 0, none⟩) ds.length cap1) := Bs5.out.1.2 1 (by simp)
          have y5h0 : W5.cell? ⟨W3.heap.size, 0, none⟩ = some (.int .i64 H.value_) := Bh5.out.1.2 0 (by simp)
          have z5h0 : W5.frozen? ⟨W3.heap.size, 0, none⟩ = false := Bh5.out.2 0 (by simp)
          have y5h1 : W5.cell? ⟨W3.heap.size, 1, none⟩ = some (.int .i64 H.version_) := Bh5.out.1.2 1 (by simp)
          have z5h1 : W5.frozen? ⟨W3.heap.size, 1, none⟩ = false := Bh5.out.2 1 (by simp)
          have y5h2 : W5.cell? ⟨W3.heap.size, 2, none⟩ = some (.int .i64 (-1)) := Bh5.out.1.2 2 (by simp)
          have z5h2 : W5.frozen? ⟨W3.heap.size, 2, none⟩ = false := Bh5.out.2 2 (by simp)
          have xg0 : W5.cell? ⟨g0, ob * 3 + 0, none⟩ = some (.int .i64 H.value_) := by obtain ⟨g9, cap9, e9, -, -, h90, h91, h92, -⟩ := own_head O05.out ob hoh; simp only [Value.slice.injEq, Option.some.injEq, Addr.mk.injEq, and_true, true_and] at e9; obtain ⟨rfl, -⟩ := e9; rw [hHH.out] at h90 h91 h92; exact h90
          have xg1 : W5.cell? ⟨g0, ob * 3 + 1, none⟩ = some (.int .i64 H.version_) := by obtain ⟨g9, cap9, e9, -, -, h90, h91, h92, -⟩ := own_head O05.out ob hoh; simp only [Value.slice.injEq, Option.some.injEq, Addr.mk.injEq, and_true, true_and] at e9; obtain ⟨rfl, -⟩ := e9; rw [hHH.out] at h90 h91 h92; exact h91
          have xg2 : W5.cell? ⟨g0, ob * 3 + 2, none⟩ = some (.int .i64 H.desc_) := by obtain ⟨g9, cap9, e9, -, -, h90, h91, h92, -⟩ := own_head O05.out ob hoh; simp only [Value.slice.injEq, Option.some.injEq, Addr.mk.injEq, and_true, true_and] at e9; obtain ⟨rfl, -⟩ := e9; rw [hHH.out] at h90 h91 h92; exact h92
          have zg : ∀ j, W5.frozen? ⟨g0, j, none⟩ = false := by obtain ⟨g9, cap9, e9, -, -, -, -, -, h9⟩ := own_head O05.out ob hoh; simp only [Value.slice.injEq, Option.some.injEq, Addr.mk.injEq, and_true, true_and] at e9; obtain ⟨rfl, -⟩ := e9; exact h9
          have zg0 := zg (ob * 3)
          have zg1 := zg (ob * 3 + 1)
          have zg2 := zg (ob * 3 + 2)
          clear zg
          replace xg0 : W5.cell? ⟨g0, ob * 3, none⟩ = some (.int .i64 H.value_) := xg0
          obtain ⟨W6, hW6⟩ : ∃ X, ((W5.setCell ⟨g0, ob * 3, none⟩ (.int .i64 H.value_)).setCell ⟨g0, ob * 3 + 1, none⟩ (.int .i64 H.version_)).setCell ⟨g0, ob * 3 + 2, none⟩ (.int .i64 (-1)) = X := ⟨_, rfl⟩
          have Bs6 : Hid (BoxF W6 (w.heap.size) [Value.slice (some ⟨g0, 0, none⟩) hs.length cap0, Value.slice (some ⟨g1, 0, none⟩) ds.length cap1]) := by rw [← hW6]; exact hid (((Bs5.out.other _ _ qg0s.out).other _ _ qg0s.out).other _ _ qg0s.out)
          have Bf6 : Hid (BoxF W6 (w.heap.size + 1) [.int .i64 (k : Int), .int .i64 4, .int .i64 (a : Int)]) := by rw [← hW6]; exact hid (((Bf5.out.other _ _ qg0f.out).other _ _ qg0f.out).other _ _ qg0f.out)
          have Br6 : Hid (BoxF W6 (w.heap.size + 1 + 1) [.int .i64 0, .int .i64 0, .int .i64 0]) := by rw [← hW6]; exact hid (((Br5.out.other _ _ qg0r.out).other _ _ qg0r.out).other _ _ qg0r.out)
          have O06 : Hid (ownL S0 W6 (Value.slice (some ⟨g0, 0, none⟩) hs.length cap0) (hs.set ob ⟨H.value_, H.version_, -1⟩)) := by
            rw [← hW6]
            have h1 := own_head_set O05.out ob hoh 0 (by omega) (.int .i64 H.value_) ⟨H.value_, H.version_, H.desc_⟩ (by rw [hHH.out]; rfl)
            have h2 := own_head_set h1 ob (by rw [List.length_set]; exact hoh) 1 (by omega) (.int .i64 H.version_) ⟨H.value_, H.version_, H.desc_⟩ (by rw [List.getElem_set_self]; rfl)
            have h3 := own_head_set h2 ob (by rw [List.length_set, List.length_set]; exact hoh) 2 (by omega) (.int .i64 (-1)) ⟨H.value_, H.version_, (-1)⟩ (by rw [List.getElem_set_self]; rfl)
            rw [List.set_set, List.set_set] at h3
            exact hid h3
          have O16 : Hid (ownL S1 W6 (Value.slice (some ⟨g1, 0, none⟩) ds.length cap1) ds) := by rw [← hW6]; exact hid (own_set (own_set (own_set O15.out NG1.out) NG1.out) NG1.out)
          have C6 : Hid (ChgS (fun b => S0 b ∨ S1 b) w W6) := by rw [← hW6]; exact hid (((C5.out.set _ _ (.inl hg0)).set _ _ (.inl hg0)).set _ _ (.inl hg0))
          have y6s0 : W6.cell? ⟨w.heap.size, 0, none⟩ = some (Value.slice (some ⟨g0, 0, none⟩) hs.length cap0) := Bs6.out.1.2 0 (by simp)
          have y6s1 : W6.cell? ⟨w.heap.size, 1, none⟩ = some (Value.slice (some ⟨g1, 0, none⟩) ds.length cap1) := Bs6.out.1.2 1 (by simp)
          have y6f0 : W6.cell? ⟨w.heap.size + 1, 0, none⟩ = some (.int .i64 (k : Int)) := Bf6.out.1.2 0 (by simp)
          have y6f1 : W6.cell? ⟨w.heap.size + 1, 1, none⟩ = some (.int .i64 4) := Bf6.out.1.2 1 (by simp)
          have y6f2 : W6.cell? ⟨w.heap.size + 1, 2, none⟩ = some (.int .i64 (a : Int)) := Bf6.out.1.2 2 (by simp)
          go_wp2_with fail
          refine (spec_l7Next0 (hs.set ob ⟨H.value_, H.version_, -1⟩) (ds) _ _ ⟨(k : Int), 4, (a : Int)⟩ 5 _ (ownL.rds O06.out) (ownL.rds O16.out) k rfl hkL.out ⟨ha0, h46.out⟩).mono ?_
          rintro e w9 ⟨rfl, b9⟩
          have BR9 := hid (Br6.out.below b9)
          have O09 := hid (O06.out.keep (w' := w9) fun b hb => b9.block b ((hsz4.out _ C6.out).1 b hb))
          have O19 := hid (O16.out.keep (w' := w9) fun b hb => b9.block b ((hsz4.out _ C6.out).2 b hb))
          have C9 := hid (C6.out.trans (ChgS.of_below b9 _))
          clear b9
          have y9r0 : w9.cell? ⟨w.heap.size + 1 + 1, 0, none⟩ = some (.int .i64 0) := BR9.out.1.2 0 (by simp)
          have z9r0 : w9.frozen? ⟨w.heap.size + 1 + 1, 0, none⟩ = false := BR9.out.2 0 (by simp)
          have y9r1 : w9.cell? ⟨w.heap.size + 1 + 1, 1, none⟩ = some (.int .i64 0) := BR9.out.1.2 1 (by simp)
          have z9r1 : w9.frozen? ⟨w.heap.size + 1 + 1, 1, none⟩ = false := BR9.out.2 1 (by simp)
          have y9r2 : w9.cell? ⟨w.heap.size + 1 + 1, 2, none⟩ = some (.int .i64 0) := BR9.out.1.2 2 (by simp)
          have z9r2 : w9.frozen? ⟨w.heap.size + 1 + 1, 2, none⟩ = false := BR9.out.2 2 (by simp)
          go_wp2_with ((try simp only [Exit.inBlock, Exit.then]); (with_reducible refine bodyPost_ret (v := .tuple #[.agg #[.int .i64 (nextF ds ⟨(k : Int), 4, (a : Int)⟩ 5).desc_, .int .i64 (nextF ds ⟨(k : Int), 4, (a : Int)⟩ 5).phase_, .int .i64 (nextF ds ⟨(k : Int), 4, (a : Int)⟩ 5).at_], .int .i64 (-1)]) ?_ (by exact rfl) ?_); (simp [results, Tryz.results101, go_sem, y9r0, z9r0, y9r1, z9r1, y9r2, z9r2]); (exact ⟨by rw [HF.out, HNv.out], by rw [HHs.out, HDs.out]; exact fin3 O09.out O19.out C9.out hRr.out HS0.out HS1.out _ _ _⟩))
        · have hc1' : (D.status_ == 1) = false := by rw [beq_eq_false_iff_ne]; exact hc1
          clear hc hc1
          have zh2 : W4.frozen? ⟨W3.heap.size, 2, none⟩ = false := BH4.out.2 2 (by simp)
          obtain ⟨W5, hW5⟩ : ∃ X, W4.setCell ⟨W3.heap.size, 2, none⟩ (.int .i64 (-1)) = X := ⟨_, rfl⟩
          have Bs5 : Hid (BoxF W5 (w.heap.size) [Value.slice (some ⟨g0, 0, none⟩) hs.length cap0, Value.slice (some ⟨g1, 0, none⟩) ds.length cap1]) := by rw [← hW5]; exact hid (BS4.out.other _ _ qhs.out)
          have Bf5 : Hid (BoxF W5 (w.heap.size + 1) [.int .i64 (k : Int), .int .i64 4, .int .i64 (a : Int)]) := by rw [← hW5]; exact hid (BF4.out.other _ _ qhf.out)
          have Br5 : Hid (BoxF W5 (w.heap.size + 1 + 1) [.int .i64 0, .int .i64 0, .int .i64 0]) := by rw [← hW5]; exact hid (BR4.out.other _ _ qhr.out)
          have Bd5 : Hid (BoxF W5 (W1.heap.size) [.int .i64 D.owner_, .int .i64 D.status_, Value.slice (some ⟨be, off, none⟩) n ecap]) := by rw [← hW5]; exact hid (BD4.out.other _ _ qhd.out)
          have Be5 : Hid (BoxF W5 (W2.heap.size) [.int .i64 (ob : Int), .int .i64 E.version_, .int .i64 E.old_, .int .i64 E.new_, .bool E.write_]) := by rw [← hW5]; exact hid (BE4.out.other _ _ qhe.out)
          have Bh5 : Hid (BoxF W5 (W3.heap.size) [.int .i64 H.value_, .int .i64 H.version_, .int .i64 (-1)]) := by rw [← hW5]; exact hid (BH4.out.set 2 (by simp) _)
          have O05 : Hid (ownL S0 W5 (Value.slice (some ⟨g0, 0, none⟩) hs.length cap0) (hs)) := by rw [← hW5]; exact hid (own_set O04.out NB0.out)
          have O15 : Hid (ownL S1 W5 (Value.slice (some ⟨g1, 0, none⟩) ds.length cap1) (ds)) := by rw [← hW5]; exact hid (own_set O14.out NB1.out)
          have C5 : Hid (ChgS (fun b => S0 b ∨ S1 b) w W5) := by rw [← hW5]; exact hid (HC4.out.setNew _ _ hWh.out)
          have y5d1 : W5.cell? ⟨W1.heap.size, 1, none⟩ = some (.int .i64 D.status_) := Bd5.out.1.2 1 (by simp)
          have y5e0 : W5.cell? ⟨W2.heap.size, 0, none⟩ = some (.int .i64 (ob : Int)) := Be5.out.1.2 0 (by simp)
          have y5e3 : W5.cell? ⟨W2.heap.size, 3, none⟩ = some (.int .i64 E.new_) := Be5.out.1.2 3 (by simp)
          have y5e4 : W5.cell? ⟨W2.heap.size, 4, none⟩ = some (.bool E.write_) := Be5.out.1.2 4 (by simp)
          have y5s0 : W5.cell? ⟨w.heap.size, 0, none⟩ = some (Value.slice (some ⟨g0, 0, none⟩) hs.length cap0) := Bs5.out.1.2 0 (by simp)
          have y5s1 : W5.cell? ⟨w.heap.size, 1, none⟩ = some (Value.slice (some ⟨g1, 0, none⟩) ds.length cap1) := Bs5.out.1.2 1 (by simp)
          have y5h0 : W5.cell? ⟨W3.heap.size, 0, none⟩ = some (.int .i64 H.value_) := Bh5.out.1.2 0 (by simp)
          have z5h0 : W5.frozen? ⟨W3.heap.size, 0, none⟩ = false := Bh5.out.2 0 (by simp)
          have y5h1 : W5.cell? ⟨W3.heap.size, 1, none⟩ = some (.int .i64 H.version_) := Bh5.out.1.2 1 (by simp)
          have z5h1 : W5.frozen? ⟨W3.heap.size, 1, none⟩ = false := Bh5.out.2 1 (by simp)
          have y5h2 : W5.cell? ⟨W3.heap.size, 2, none⟩ = some (.int .i64 (-1)) := Bh5.out.1.2 2 (by simp)
          have z5h2 : W5.frozen? ⟨W3.heap.size, 2, none⟩ = false := Bh5.out.2 2 (by simp)
          have xg0 : W5.cell? ⟨g0, ob * 3 + 0, none⟩ = some (.int .i64 H.value_) := by obtain ⟨g9, cap9, e9, -, -, h90, h91, h92, -⟩ := own_head O05.out ob hoh; simp only [Value.slice.injEq, Option.some.injEq, Addr.mk.injEq, and_true, true_and] at e9; obtain ⟨rfl, -⟩ := e9; rw [hHH.out] at h90 h91 h92; exact h90
          have xg1 : W5.cell? ⟨g0, ob * 3 + 1, none⟩ = some (.int .i64 H.version_) := by obtain ⟨g9, cap9, e9, -, -, h90, h91, h92, -⟩ := own_head O05.out ob hoh; simp only [Value.slice.injEq, Option.some.injEq, Addr.mk.injEq, and_true, true_and] at e9; obtain ⟨rfl, -⟩ := e9; rw [hHH.out] at h90 h91 h92; exact h91
          have xg2 : W5.cell? ⟨g0, ob * 3 + 2, none⟩ = some (.int .i64 H.desc_) := by obtain ⟨g9, cap9, e9, -, -, h90, h91, h92, -⟩ := own_head O05.out ob hoh; simp only [Value.slice.injEq, Option.some.injEq, Addr.mk.injEq, and_true, true_and] at e9; obtain ⟨rfl, -⟩ := e9; rw [hHH.out] at h90 h91 h92; exact h92
          have zg : ∀ j, W5.frozen? ⟨g0, j, none⟩ = false := by obtain ⟨g9, cap9, e9, -, -, -, -, -, h9⟩ := own_head O05.out ob hoh; simp only [Value.slice.injEq, Option.some.injEq, Addr.mk.injEq, and_true, true_and] at e9; obtain ⟨rfl, -⟩ := e9; exact h9
          have zg0 := zg (ob * 3)
          have zg1 := zg (ob * 3 + 1)
          have zg2 := zg (ob * 3 + 2)
          clear zg
          replace xg0 : W5.cell? ⟨g0, ob * 3, none⟩ = some (.int .i64 H.value_) := xg0
          obtain ⟨W6, hW6⟩ : ∃ X, ((W5.setCell ⟨g0, ob * 3, none⟩ (.int .i64 H.value_)).setCell ⟨g0, ob * 3 + 1, none⟩ (.int .i64 H.version_)).setCell ⟨g0, ob * 3 + 2, none⟩ (.int .i64 (-1)) = X := ⟨_, rfl⟩
          have Bs6 : Hid (BoxF W6 (w.heap.size) [Value.slice (some ⟨g0, 0, none⟩) hs.length cap0, Value.slice (some ⟨g1, 0, none⟩) ds.length cap1]) := by rw [← hW6]; exact hid (((Bs5.out.other _ _ qg0s.out).other _ _ qg0s.out).other _ _ qg0s.out)
          have Bf6 : Hid (BoxF W6 (w.heap.size + 1) [.int .i64 (k : Int), .int .i64 4, .int .i64 (a : Int)]) := by rw [← hW6]; exact hid (((Bf5.out.other _ _ qg0f.out).other _ _ qg0f.out).other _ _ qg0f.out)
          have Br6 : Hid (BoxF W6 (w.heap.size + 1 + 1) [.int .i64 0, .int .i64 0, .int .i64 0]) := by rw [← hW6]; exact hid (((Br5.out.other _ _ qg0r.out).other _ _ qg0r.out).other _ _ qg0r.out)
          have O06 : Hid (ownL S0 W6 (Value.slice (some ⟨g0, 0, none⟩) hs.length cap0) (hs.set ob ⟨H.value_, H.version_, -1⟩)) := by
            rw [← hW6]
            have h1 := own_head_set O05.out ob hoh 0 (by omega) (.int .i64 H.value_) ⟨H.value_, H.version_, H.desc_⟩ (by rw [hHH.out]; rfl)
            have h2 := own_head_set h1 ob (by rw [List.length_set]; exact hoh) 1 (by omega) (.int .i64 H.version_) ⟨H.value_, H.version_, H.desc_⟩ (by rw [List.getElem_set_self]; rfl)
            have h3 := own_head_set h2 ob (by rw [List.length_set, List.length_set]; exact hoh) 2 (by omega) (.int .i64 (-1)) ⟨H.value_, H.version_, (-1)⟩ (by rw [List.getElem_set_self]; rfl)
            rw [List.set_set, List.set_set] at h3
            exact hid h3
          have O16 : Hid (ownL S1 W6 (Value.slice (some ⟨g1, 0, none⟩) ds.length cap1) ds) := by rw [← hW6]; exact hid (own_set (own_set (own_set O15.out NG1.out) NG1.out) NG1.out)
          have C6 : Hid (ChgS (fun b => S0 b ∨ S1 b) w W6) := by rw [← hW6]; exact hid (((C5.out.set _ _ (.inl hg0)).set _ _ (.inl hg0)).set _ _ (.inl hg0))
          have y6s0 : W6.cell? ⟨w.heap.size, 0, none⟩ = some (Value.slice (some ⟨g0, 0, none⟩) hs.length cap0) := Bs6.out.1.2 0 (by simp)
          have y6s1 : W6.cell? ⟨w.heap.size, 1, none⟩ = some (Value.slice (some ⟨g1, 0, none⟩) ds.length cap1) := Bs6.out.1.2 1 (by simp)
          have y6f0 : W6.cell? ⟨w.heap.size + 1, 0, none⟩ = some (.int .i64 (k : Int)) := Bf6.out.1.2 0 (by simp)
          have y6f1 : W6.cell? ⟨w.heap.size + 1, 1, none⟩ = some (.int .i64 4) := Bf6.out.1.2 1 (by simp)
          have y6f2 : W6.cell? ⟨w.heap.size + 1, 2, none⟩ = some (.int .i64 (a : Int)) := Bf6.out.1.2 2 (by simp)
          go_wp2_with fail
          refine (spec_l7Next0 (hs.set ob ⟨H.value_, H.version_, -1⟩) (ds) _ _ ⟨(k : Int), 4, (a : Int)⟩ 5 _ (ownL.rds O06.out) (ownL.rds O16.out) k rfl hkL.out ⟨ha0, h46.out⟩).mono ?_
          rintro e w9 ⟨rfl, b9⟩
          have BR9 := hid (Br6.out.below b9)
          have O09 := hid (O06.out.keep (w' := w9) fun b hb => b9.block b ((hsz4.out _ C6.out).1 b hb))
          have O19 := hid (O16.out.keep (w' := w9) fun b hb => b9.block b ((hsz4.out _ C6.out).2 b hb))
          have C9 := hid (C6.out.trans (ChgS.of_below b9 _))
          clear b9
          have y9r0 : w9.cell? ⟨w.heap.size + 1 + 1, 0, none⟩ = some (.int .i64 0) := BR9.out.1.2 0 (by simp)
          have z9r0 : w9.frozen? ⟨w.heap.size + 1 + 1, 0, none⟩ = false := BR9.out.2 0 (by simp)
          have y9r1 : w9.cell? ⟨w.heap.size + 1 + 1, 1, none⟩ = some (.int .i64 0) := BR9.out.1.2 1 (by simp)
          have z9r1 : w9.frozen? ⟨w.heap.size + 1 + 1, 1, none⟩ = false := BR9.out.2 1 (by simp)
          have y9r2 : w9.cell? ⟨w.heap.size + 1 + 1, 2, none⟩ = some (.int .i64 0) := BR9.out.1.2 2 (by simp)
          have z9r2 : w9.frozen? ⟨w.heap.size + 1 + 1, 2, none⟩ = false := BR9.out.2 2 (by simp)
          go_wp2_with ((try simp only [Exit.inBlock, Exit.then]); (with_reducible refine bodyPost_ret (v := .tuple #[.agg #[.int .i64 (nextF ds ⟨(k : Int), 4, (a : Int)⟩ 5).desc_, .int .i64 (nextF ds ⟨(k : Int), 4, (a : Int)⟩ 5).phase_, .int .i64 (nextF ds ⟨(k : Int), 4, (a : Int)⟩ 5).at_], .int .i64 (-1)]) ?_ (by exact rfl) ?_); (simp [results, Tryz.results101, go_sem, y9r0, z9r0, y9r1, z9r1, y9r2, z9r2]); (exact ⟨by rw [HF.out, HNv.out], by rw [HHs.out, HDs.out]; exact fin3 O09.out O19.out C9.out hRr.out HS0.out HS1.out _ _ _⟩))
    · have HHs := hid (show stepH hs ds ⟨(k : Int), 4, (a : Int)⟩ = hs by unfold stepH; dsimp only; rw [if_neg (by decide), if_pos rfl, hcH.out, if_neg hq])
      have hq' : (H.desc_ == (k : Int)) = false := by rw [beq_eq_false_iff_ne]; exact hq
      clear hq
      have y4s0 : W4.cell? ⟨w.heap.size, 0, none⟩ = some (Value.slice (some ⟨g0, 0, none⟩) hs.length cap0) := BS4.out.1.2 0 (by simp)
      have y4s1 : W4.cell? ⟨w.heap.size, 1, none⟩ = some (Value.slice (some ⟨g1, 0, none⟩) ds.length cap1) := BS4.out.1.2 1 (by simp)
      have y4f0 : W4.cell? ⟨w.heap.size + 1, 0, none⟩ = some (.int .i64 (k : Int)) := BF4.out.1.2 0 (by simp)
      have y4f1 : W4.cell? ⟨w.heap.size + 1, 1, none⟩ = some (.int .i64 4) := BF4.out.1.2 1 (by simp)
      have y4f2 : W4.cell? ⟨w.heap.size + 1, 2, none⟩ = some (.int .i64 (a : Int)) := BF4.out.1.2 2 (by simp)
      go_wp2_with fail
      refine (spec_l7Next0 (hs) (ds) _ _ ⟨(k : Int), 4, (a : Int)⟩ 5 _ (ownL.rds O04.out) (ownL.rds O14.out) k rfl hkL.out ⟨ha0, h46.out⟩).mono ?_
      rintro e w9 ⟨rfl, b9⟩
      have BR9 := hid (BR4.out.below b9)
      have O09 := hid (O04.out.keep (w' := w9) fun b hb => b9.block b ((hsz4.out _ HC4.out).1 b hb))
      have O19 := hid (O14.out.keep (w' := w9) fun b hb => b9.block b ((hsz4.out _ HC4.out).2 b hb))
      have C9 := hid (HC4.out.trans (ChgS.of_below b9 _))
      clear b9
      have y9r0 : w9.cell? ⟨w.heap.size + 1 + 1, 0, none⟩ = some (.int .i64 0) := BR9.out.1.2 0 (by simp)
      have z9r0 : w9.frozen? ⟨w.heap.size + 1 + 1, 0, none⟩ = false := BR9.out.2 0 (by simp)
      have y9r1 : w9.cell? ⟨w.heap.size + 1 + 1, 1, none⟩ = some (.int .i64 0) := BR9.out.1.2 1 (by simp)
      have z9r1 : w9.frozen? ⟨w.heap.size + 1 + 1, 1, none⟩ = false := BR9.out.2 1 (by simp)
      have y9r2 : w9.cell? ⟨w.heap.size + 1 + 1, 2, none⟩ = some (.int .i64 0) := BR9.out.1.2 2 (by simp)
      have z9r2 : w9.frozen? ⟨w.heap.size + 1 + 1, 2, none⟩ = false := BR9.out.2 2 (by simp)
      go_wp2_with ((try simp only [Exit.inBlock, Exit.then]); (with_reducible refine bodyPost_ret (v := .tuple #[.agg #[.int .i64 (nextF ds ⟨(k : Int), 4, (a : Int)⟩ 5).desc_, .int .i64 (nextF ds ⟨(k : Int), 4, (a : Int)⟩ 5).phase_, .int .i64 (nextF ds ⟨(k : Int), 4, (a : Int)⟩ 5).at_], .int .i64 (-1)]) ?_ (by exact rfl) ?_); (simp [results, Tryz.results101, go_sem, y9r0, z9r0, y9r1, z9r1, y9r2, z9r2]); (exact ⟨by rw [HF.out, HNv.out], by rw [HHs.out, HDs.out]; exact fin3 O09.out O19.out C9.out hRr.out HS0.out HS1.out _ _ _⟩))
  · have ha5 : a = 0 := by have h9 := Hat.out (by decide); omega
    subst ha5
    have HHs := hid (show stepH hs ds ⟨(k : Int), 5, 0⟩ = hs by simp [stepH])
    have HDs := hid (show stepD ds ⟨(k : Int), 5, 0⟩ = ds by simp [stepD])
    have HNv := hid (show stepN hs ds ⟨(k : Int), 5, 0⟩ = -1 by simp [stepN])
    have HF := hid (show stepF hs ds ⟨(k : Int), 5, 0⟩ = ⟨(k : Int), 5, 0⟩ by simp [stepF])
    have y4r0 : W4.cell? ⟨w.heap.size + 1 + 1, 0, none⟩ = some (.int .i64 0) := BR4.out.1.2 0 (by simp)
    have z4r0 : W4.frozen? ⟨w.heap.size + 1 + 1, 0, none⟩ = false := BR4.out.2 0 (by simp)
    have y4r1 : W4.cell? ⟨w.heap.size + 1 + 1, 1, none⟩ = some (.int .i64 0) := BR4.out.1.2 1 (by simp)
    have z4r1 : W4.frozen? ⟨w.heap.size + 1 + 1, 1, none⟩ = false := BR4.out.2 1 (by simp)
    have y4r2 : W4.cell? ⟨w.heap.size + 1 + 1, 2, none⟩ = some (.int .i64 0) := BR4.out.1.2 2 (by simp)
    have z4r2 : W4.frozen? ⟨w.heap.size + 1 + 1, 2, none⟩ = false := BR4.out.2 2 (by simp)
    go_wp2_with ((try simp only [Exit.inBlock, Exit.then]); (with_reducible refine bodyPost_ret (v := .tuple #[.agg #[.int .i64 (k : Int), .int .i64 5, .int .i64 0], .int .i64 (-1)]) ?_ (by exact rfl) ?_); (simp [results, Tryz.results101, go_sem, y4r0, z4r0, y4r1, z4r1, y4r2, z4r2]); (exact ⟨by rw [HF.out, HNv.out], by rw [HHs.out, HDs.out]; exact fin3 O04.out O14.out HC4.out hRr.out HS0.out HS1.out _ _ _⟩))
end Go.Proofs.YtbbdchlabdilcabGreat
