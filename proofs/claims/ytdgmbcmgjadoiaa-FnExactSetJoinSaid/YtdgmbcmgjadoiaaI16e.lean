/- Chapter 16's program: a value added under the set's lock. -/
import Derived.Test.YtdgmbcmgjadoiaaI16d
import Derived.Test.YtdgmbcmgjadoiaaMu
import Derived.Defers
namespace Go.Proofs.Ytdgmbcmgjadoiaa
set_option maxRecDepth 100000
open Go.RowKit Go.Proofs Go.Own
open Go Go.BigFrame
set_option linter.unusedVariables false
set_option linter.unusedSimpArgs false
theorem setCell_size16 (w : World) (a : Addr) (v : Value) : (w.setCell a v).heap.size = w.heap.size := by simp [World.setCell]
theorem LkS.lock {B lo : Nat} {st : Int} {S : Nat → Prop} {w : World} {s : List RowD} (h : LkS B lo st S w s) (st' : Int) : LkS B lo st' S (w.setCell ⟨B, 0, none⟩ (.int .i32 st')) s := by
  obtain ⟨g, c, h1, h2, h3, h4⟩ := h
  refine ⟨g, c, h1.set 0 (by simp) _, h2.keep fun k hk => heap_setCell_other _ _ k _ (h3 k hk).2.2, fun b hb => ?_, h4⟩
  rw [setCell_size16]; exact h3 b hb
theorem LkS.lockc {B lo : Nat} {st : Int} {S : Nat → Prop} {w : World} {s : List RowD} (h : LkS B lo st S w s) : w.cell? ⟨B, 0, none⟩ = some (.int .i32 st) := by
  obtain ⟨g, c, h1, h2, h3, h4⟩ := h; exact h1.1.2 0 (by simp)
theorem LkS.lockf {B lo : Nat} {st : Int} {S : Nat → Prop} {w : World} {s : List RowD} (h : LkS B lo st S w s) : w.frozen? ⟨B, 0, none⟩ = false := by
  obtain ⟨g, c, h1, h2, h3, h4⟩ := h; exact h1.2 0 (by simp)
theorem LkS.lt {B lo : Nat} {st : Int} {S : Nat → Prop} {w : World} {s : List RowD} (h : LkS B lo st S w s) : B < w.heap.size ∧ lo ≤ B := by
  obtain ⟨g, c, h1, h2, h3, h4⟩ := h; exact ⟨h1.1.1, h4⟩
theorem LkS.cell2 {B lo : Nat} {st : Int} {S : Nat → Prop} {w : World} {s : List RowD} (h : LkS B lo st S w s) : ∃ g c, w.cell? ⟨B, 2, none⟩ = some (.slice (some ⟨g, 0, none⟩) s.length c) ∧ rdsL w (.slice (some ⟨g, 0, none⟩) s.length c) s := by
  obtain ⟨g, c, h1, h2⟩ := h.buckets; exact ⟨g, c, h1.1.2 2 (by simp), h2⟩
/-- What may change along the way: the set's own blocks, its box. -/
theorem chg_step {S T : Nat → Prop} {B : Nat} {w a b : World} (h : ChgS (fun k => S k ∨ k = B) w a) (hT : ∀ k, T k → S k ∨ (w.heap.size ≤ k ∧ k < a.heap.size)) (g : ChgS (fun k => T k ∨ k = B) a b) : ChgS (fun k => S k ∨ k = B) w b :=
  ⟨g.os.trans h.os, g.tape.trans h.tape, g.output.trans h.output, Nat.le_trans h.size g.size, fun k hk hn => by
    rw [g.block k (Nat.lt_of_lt_of_le hk h.size) (fun e => by
      rcases e with e | e
      · rcases hT k e with h9 | h9
        · exact hn (.inl h9)
        · omega
      · exact hn (.inr e))]
    exact h.block k hk hn⟩
theorem sub_step {S T U : Nat → Prop} {w a b : World} (hs : w.heap.size ≤ a.heap.size) (hab : a.heap.size ≤ b.heap.size) (hT : ∀ k, T k → S k ∨ (w.heap.size ≤ k ∧ k < a.heap.size)) (hU : ∀ k, U k → T k ∨ (a.heap.size ≤ k ∧ k < b.heap.size)) : ∀ k, U k → S k ∨ (w.heap.size ≤ k ∧ k < b.heap.size) := fun k hk => by
  rcases hU k hk with h | h
  · exact (hT k h).imp id fun h9 => ⟨h9.1, by omega⟩
  · exact .inr ⟨by omega, h.2⟩
def szAt (B : Nat) (w : World) : Nat := lenV ((w.cell? ⟨B, 2, none⟩).getD undef)
set_option maxHeartbeats 16000000 in
theorem impl_add (B lo : Nat) (s : List RowD) (x : Int) (S : Nat → Prop) (w : World) (hlo : lo ≤ w.heap.size) (h : LkS B lo 0 S w s) :
    Calls Try.prog 60 #[.pointer (some ⟨B, 0, none⟩), .int .i64 x] w fun e w' => ∃ S' : Nat → Prop, e = .returned (.int .i64 (addC s x).2) ∧ LkS B lo 0 S' w' (addC s x).1 ∧ (∀ b, S' b → S b ∨ (w.heap.size ≤ b ∧ b < w'.heap.size)) ∧ ChgS (fun b => S b ∨ b = B) w w' := by
  obtain ⟨A, hA⟩ : ∃ A, addC s x = A := ⟨_, rfl⟩
  obtain ⟨r1, hr1⟩ : ∃ r, setOk s = r := ⟨_, rfl⟩
  obtain ⟨r2, hr2⟩ : ∃ r, isVal x = r := ⟨_, rfl⟩
  obtain ⟨r3, hr3⟩ : ∃ r, hasC s x = r := ⟨_, rfl⟩
  have HOK := hid (fun w v (r : rdsL w v s) => impl_SetOkIs s r1 v w r hr1)
  have HHA := hid (fun w v (r : rdsL w v s) => impl_SetHas0 s x v w r)
  have HV := hid (fun w => impl_isVal16 x r2 w hr2)
  rw [hr3] at HHA
  rw [hA]
  have HA := hid hA
  have HR1 := hid hr1
  have HR2 := hid hr2
  have HR3 := hid hr3
  have hc0 := h.lockc
  have hf0 := h.lockf
  obtain ⟨W1, hW1⟩ : ∃ X, w.setCell ⟨B, 0, none⟩ (.int .i32 1) = X := ⟨_, rfl⟩
  have HL1 : Hid (LkS B lo 1 S W1 s) := by rw [← hW1]; exact hid (h.lock 1)
  have HC1 : Hid (ChgS (fun b => S b ∨ b = B) w W1) := by rw [← hW1]; exact hid ((ChgS.refl _ w).set _ _ (.inr rfl))
  have hs1 : W1.heap.size = w.heap.size := by rw [← hW1]; simp [World.setCell]
  have HSl := hid (show ∀ b, S b → b < w.heap.size from fun b hb => by obtain ⟨g, c, h1, h2, h3, h4⟩ := h; exact (h3 b hb).2.1)
  clear hA hr1 hr2 hr3 h
  go_enter_defers Try.func60, Try.ntmps60
  go_wp2_with fail
  refine (Go.MuLone.lock_free muLib ⟨B, 0, none⟩ _ hc0 hf0).mono ?_
  rintro e w1 ⟨rfl, rfl⟩
  rw [hW1]
  clear hW1 hc0 hf0
  obtain ⟨g1, c1, k12, rd1⟩ := HL1.out.cell2
  go_wp2_with fail
  refine (HOK.out _ _ rd1).mono ?_
  rintro e w2 ⟨rfl, b2⟩
  have HL2 := hid (HL1.out.chg b2)
  have HC2 := hid (HC1.out.trans (ChgS.of_below b2 _))
  have hs2 := b2.size
  have HT2 := hid (show ∀ b, S b → S b ∨ (w.heap.size ≤ b ∧ b < w2.heap.size) from fun b hb => .inl hb)
  clear b2 k12 rd1 HL1 HC1 HOK
  cases r1 with
  | false =>
    have Hx := hid (show A = (s, 1) from HA.out.symm.trans (add_bad (by rw [HR1.out]; rfl)))
    clear HA HR1 HR2 HR3 HV HHA
    have HLz := HL2
    have HTz := HT2
    have HCz := HC2
    go_wp2
    (refine leaves_cons (f := 71) (args := #[.pointer (some ⟨B, 0, none⟩)]) (by simp) (by simp [go_sem]) ?_; refine (Go.MuLone.unlock_deferred muLib ⟨B, 0, none⟩ _ _ HLz.out.lockc HLz.out.lockf).mono ?_; rintro e u' w7 ⟨rfl, rfl, rfl⟩; exact ⟨_, results_tmp rfl _ _ _, _, (by rw [Hx.out]; rfl), by rw [Hx.out]; exact HLz.out.lock 0, by rw [setCell_size16]; exact HTz.out, HCz.out.set _ _ (.inr rfl)⟩)
  | true =>
  go_wp2_with fail
  refine (HV.out _).mono ?_
  rintro e w2' ⟨rfl, rfl⟩
  clear HV
  cases r2 with
  | false =>
    have Hx := hid (show A = (s, 1) from HA.out.symm.trans (add_bad (by rw [HR1.out, HR2.out]; rfl)))
    clear HA HR1 HR2 HR3 HHA
    have HLz := HL2
    have HTz := HT2
    have HCz := HC2
    go_wp2
    (refine leaves_cons (f := 71) (args := #[.pointer (some ⟨B, 0, none⟩)]) (by simp) (by simp [go_sem]) ?_; refine (Go.MuLone.unlock_deferred muLib ⟨B, 0, none⟩ _ _ HLz.out.lockc HLz.out.lockf).mono ?_; rintro e u' w7 ⟨rfl, rfl, rfl⟩; exact ⟨_, results_tmp rfl _ _ _, _, (by rw [Hx.out]; rfl), by rw [Hx.out]; exact HLz.out.lock 0, by rw [setCell_size16]; exact HTz.out, HCz.out.set _ _ (.inr rfl)⟩)
  | true =>
  have HG := hid (show (setOk s && isVal x) = true by rw [HR1.out, HR2.out]; rfl)
  obtain ⟨g2, c2, k22, rd2⟩ := HL2.out.cell2
  go_wp2_with fail
  refine (HHA.out _ _ rd2).mono ?_
  rintro e w3 ⟨rfl, b3⟩
  have HL3 := hid (HL2.out.chg b3)
  have HC3 := hid (HC2.out.trans (ChgS.of_below b3 _))
  have hs3 := b3.size
  have HT3 := hid (show ∀ b, S b → S b ∨ (w.heap.size ≤ b ∧ b < w3.heap.size) from fun b hb => .inl hb)
  clear b3 k22 rd2 HL2 HC2 HHA HT2
  cases r3 with
  | true =>
    have Hx := hid (show A = (s, 2) from HA.out.symm.trans (add_has HG.out HR3.out))
    clear HA HR1 HR2 HR3 HG
    have HLz := HL3
    have HTz := HT3
    have HCz := HC3
    go_wp2
    (refine leaves_cons (f := 71) (args := #[.pointer (some ⟨B, 0, none⟩)]) (by simp) (by simp [go_sem]) ?_; refine (Go.MuLone.unlock_deferred muLib ⟨B, 0, none⟩ _ _ HLz.out.lockc HLz.out.lockf).mono ?_; rintro e u' w7 ⟨rfl, rfl, rfl⟩; exact ⟨_, results_tmp rfl _ _ _, _, (by rw [Hx.out]; rfl), by rw [Hx.out]; exact HLz.out.lock 0, by rw [setCell_size16]; exact HTz.out, HCz.out.set _ _ (.inr rfl)⟩)
  | false =>
  have hp0 := setOk_pos HR1.out
  have hn8 : s.length ≤ 1048576 := by omega
  have HMH := hid (impl_mayHold B lo 1 S s x hp0.1 hn8 w3 HL3.out)
  obtain ⟨r4, hr4⟩ : ∃ r, decide (besideN s x < 3) = r := ⟨_, rfl⟩
  rw [hr4] at HMH
  have HR4 := hid hr4
  clear hr4
  go_wp2_with fail
  refine HMH.out.mono ?_
  rintro e w4 ⟨rfl, b4⟩
  have HL4 := hid (HL3.out.chg b4)
  have HC4 := hid (HC3.out.trans (ChgS.of_below b4 _))
  have hs4 := b4.size
  have HT4 := hid (show ∀ b, S b → S b ∨ (w.heap.size ≤ b ∧ b < w4.heap.size) from fun b hb => .inl hb)
  clear b4 HL3 HC3 HMH HT3
  cases r4 with
  | false =>
    have Hx := hid (show A = (s, 3) from HA.out.symm.trans (add_full HG.out HR3.out (by rw [grow_eq HR1.out, if_neg (of_decide_eq_false HR4.out)])))
    clear HA HR1 HR2 HR3 HG HR4
    have HLz := HL4
    have HTz := HT4
    have HCz := HC4
    go_wp2
    (refine leaves_cons (f := 71) (args := #[.pointer (some ⟨B, 0, none⟩)]) (by simp) (by simp [go_sem]) ?_; refine (Go.MuLone.unlock_deferred muLib ⟨B, 0, none⟩ _ _ HLz.out.lockc HLz.out.lockf).mono ?_; rintro e u' w7 ⟨rfl, rfl, rfl⟩; exact ⟨_, results_tmp rfl _ _ _, _, (by rw [Hx.out]; rfl), by rw [Hx.out]; exact HLz.out.lock 0, by rw [setCell_size16]; exact HTz.out, HCz.out.set _ _ (.inr rfl)⟩)
  | true =>
  have hbs : besideN s x < 3 := of_decide_eq_true HR4.out
  have HGI := hid (GInv.start HR1.out hbs)
  have HX9 := hid (show A = (putAt (growM 4 s x) x, 0) from HA.out.symm.trans (add_done HG.out HR3.out (by rw [grow_eq HR1.out, if_pos hbs])))
  clear HA HR1 HR2 HR3 HG HR4 hbs
  have hw4 : w.heap.size ≤ w4.heap.size := by omega
  clear hs1 hs2 hs3 hs4
  go_wp2
  go_loopw [36] (fun _ wr => ∃ (t : List RowD) (f : Nat) (T : Nat → Prop), Hid (GInv s t x f) ∧ Hid (LkS B lo 1 T wr t) ∧ Hid (∀ b, T b → S b ∨ (w.heap.size ≤ b ∧ b < wr.heap.size)) ∧ Hid (ChgS (fun b => S b ∨ b = B) w wr)) (fun _ wr => 8 - szAt B wr)
  case atStart => exact ⟨s, 4, S, HGI, HL4, HT4, HC4⟩
  case round =>
    clear HGI HL4 HT4 HC4
    obtain ⟨t, f, T, HGI, HL, HT, HC⟩ := hrel
    have hp := HGI.out.pos
    have hp8 : t.length ≤ 1048576 := by omega
    obtain ⟨g, c, hbx, hR⟩ := HL.out.buckets
    have HBK := hid (impl_bucketOf B g c t.length (.int .u32 0) 1 x hp.1 hp8 wr hbx)
    have hpl := plc_lt x hp.1
    have Hbk := bktAt_eq x hpl
    obtain ⟨a9, cap9, e9, hl9, hm9, hc⟩ := ss_open hR
    obtain ⟨bb, off, b2, c2, xs, hxs, ha9, hbs, c0, hI⟩ := hc _ hpl
    obtain ⟨rfl, rfl⟩ : g = bb ∧ off = 0 := by
      rw [ha9] at e9
      simp only [Value.slice.injEq, Option.some.injEq, Addr.mk.injEq, and_true, true_and] at e9
      exact ⟨e9.1.1, e9.1.2.symm⟩
    rw [Nat.zero_add] at c0
    have Hb3 := hid (show (bktAt t x).length = xs.length by rw [Hbk, hxs])
    obtain ⟨p, hpe⟩ : ∃ p, plc x t.length = p := ⟨_, rfl⟩
    rw [hpe] at c0 HBK
    have hBs := hid (show szAt B wr = t.length by unfold szAt; rw [hbx.1.2 2 (by simp)]; rfl)
    clear Hbk hxs hpe hpl hc e9 ha9 hR hbx hI
    go_wp2_with fail
    refine HBK.out.mono ?_
    rintro e w5 ⟨rfl, b5⟩
    have q0 := (b5.cell (p := ⟨g, p, none⟩) hbs).trans c0
    have HL5 := hid (HL.out.chg b5)
    have HC5 := hid (HC.out.trans (ChgS.of_below b5 _))
    have hs5 := b5.size
    have hwr := HC.out.size
    have HT5 := hid (show ∀ b, T b → S b ∨ (w.heap.size ≤ b ∧ b < w5.heap.size) from fun b hb => (HT.out b hb).imp id fun h => ⟨h.1, by omega⟩)
    clear b5 HL HC HT HBK c0 hbs
    by_cases h3 : (xs.length : Int) = 3
    · obtain ⟨f', hf, HN, hlt8⟩ := HGI.out.next (by rw [Hb3.out]; omega)
      have HN' := hid HN
      have HDB := hid (impl_double B lo 1 t hp.1 hp.2 (by have := HGI.out.all; omega) T w5 (by omega) HL5.out)
      have hdl := hid (dblS_len t)
      clear HN
      go_wp2_with fail
      refine HDB.out.mono ?_
      rintro e w6 ⟨T', rfl, hL6, hT6, hC6⟩
      have HL6 := hid hL6
      have HC6 := hid (chg_step HC5.out HT5.out hC6)
      have HT6 := hid (sub_step (by omega) hC6.size HT5.out hT6)
      have hB6 := hid (show szAt B w6 = (dblS t).length by
        obtain ⟨g6, c6, hbx6, _⟩ := hL6.buckets
        unfold szAt; rw [hbx6.1.2 2 (by simp)]; rfl)
      generalize dblS t = D at *
      clear hL6 hT6 hC6 HDB HL5 HC5 HT5
      go_wp2
      go_roundw
      case rel => exact ⟨D, f', T', HN', HL6, HT6, HC6⟩
      case measure =>
        have e1 := hBs.out
        have e2 := hB6.out
        have e3 := hdl.out
        have e4 := hlt8
        first | omega | (simp only [e1, e2]; omega)
    · have HX := hid (show A = (putAt t x, 0) by rw [HX9.out, HGI.out.done (by rw [Hb3.out]; omega)])
      have HPT := hid (impl_put B lo 1 t x hp.1 hp8 T w5 HL5.out (ascS_bkt HGI.out.asc hp.1 x) (by have := HGI.out.le3; omega))
      clear HX9
      go_wp2_with fail
      refine HPT.out.mono ?_
      rintro e w6 ⟨T', rfl, hL6, hT6, hC6⟩
      have HLz := hid hL6
      have HCz := hid (chg_step HC5.out HT5.out (hC6.mono fun b hb => .inl hb))
      have HTz := hid (sub_step (by omega) hC6.size HT5.out hT6)
      have Hx := HX
      clear hL6 hT6 hC6 HPT HL5 HC5 HT5 HGI
      go_wp2
      (refine leaves_cons (f := 71) (args := #[.pointer (some ⟨B, 0, none⟩)]) (by simp) (by simp [go_sem]) ?_; refine (Go.MuLone.unlock_deferred muLib ⟨B, 0, none⟩ _ _ HLz.out.lockc HLz.out.lockf).mono ?_; rintro e u' w7 ⟨rfl, rfl, rfl⟩; exact ⟨_, results_tmp rfl _ _ _, _, (by rw [Hx.out]; rfl), by rw [Hx.out]; exact HLz.out.lock 0, by rw [setCell_size16]; exact HTz.out, HCz.out.set _ _ (.inr rfl)⟩)
end Go.Proofs.Ytdgmbcmgjadoiaa
