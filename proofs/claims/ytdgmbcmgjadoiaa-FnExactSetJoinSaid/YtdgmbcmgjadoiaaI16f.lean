/- Chapter 16's program: a value dropped under the set's lock. -/
import Derived.Test.YtdgmbcmgjadoiaaI16e
import Derived.Test.YtdgmbcmgjadoiaaS16d
namespace Go.Proofs.Ytdgmbcmgjadoiaa
set_option maxRecDepth 100000
open Go.RowKit Go.Proofs Go.Own
open Go Go.BigFrame
set_option linter.unusedVariables false
set_option linter.unusedSimpArgs false
theorem idx_of {xs : List Int} {x : Int} (h : xs.Pairwise (· < ·)) (hx : x ∈ xs) : ∃ k, k < xs.length ∧ Lib.idxOf xs x = ((k : Nat) : Int) ∧ flt xs x = xs.take k ++ xs.drop (k+1) := by
  obtain ⟨k, hk, e⟩ := List.getElem_of_mem hx
  have hlt : ∀ j (hj : j < xs.length), j < k → xs[j] < x := fun j hj hjk => by
    have := List.pairwise_iff_getElem.1 h j k hj hk hjk; omega
  have hgt : ∀ j (hj : j < xs.length), k < j → x < xs[j] := fun j hj hjk => by
    have := List.pairwise_iff_getElem.1 h k j hk hj hjk; omega
  refine ⟨k, hk, ?_, ?_⟩
  · unfold Lib.idxOf
    rw [Lib.idxFrom_hit x xs k 0 hk (by rw [List.getD_eq_getElem?_getD, List.getElem?_eq_getElem hk]; exact e) (fun j hj => by
      rw [List.getD_eq_getElem?_getD, List.getElem?_eq_getElem (by omega)]
      have := hlt j (by omega) hj
      show xs[j] ≠ x
      omega), Nat.zero_add]
  · unfold flt
    have e1 : xs = xs.take k ++ x :: xs.drop (k+1) := by
      have := List.take_append_drop k xs
      rw [List.drop_eq_getElem_cons hk, e] at this
      exact this.symm
    conv => lhs; rw [e1]
    rw [List.filter_append, List.filter_cons]
    have h1 : (xs.take k).filter (fun y => !(y == x)) = xs.take k := by
      rw [List.filter_eq_self]
      intro y hy
      obtain ⟨i, hi, rfl⟩ := List.getElem_of_mem hy
      rw [List.length_take] at hi
      rw [List.getElem_take]
      have := hlt i (by omega) (by omega)
      simp; omega
    have h2 : (xs.drop (k+1)).filter (fun y => !(y == x)) = xs.drop (k+1) := by
      rw [List.filter_eq_self]
      intro y hy
      obtain ⟨i, hi, rfl⟩ := List.getElem_of_mem hy
      rw [List.length_drop] at hi
      rw [List.getElem_drop]
      have := hgt (k + 1 + i) (by omega) (by omega)
      simp; omega
    rw [h1, h2]; simp
theorem has_mem {s : List RowD} {x : Int} (h : setOk s = true) (h2 : hasC s x = true) {p : Nat} (hp : p < s.length) (e : plc x s.length = p) {xs : List Int} (hxs : s[p].xs_ = xs) : x ∈ xs := by
  unfold hasC at h2
  rw [h, Bool.true_and, decide_eq_true_eq] at h2
  subst e
  rw [bktAt_eq x hp, hxs] at h2
  exact h2
theorem ok_pw {s : List RowD} (h : setOk s = true) {p : Nat} (hp : p < s.length) {xs : List Int} (hxs : s[p].xs_ = xs) : xs.Pairwise (· < ·) := by
  have h1 := (setOk_iff.1 h).2 p hp
  unfold bktOk at h1
  rw [Bool.and_eq_true, hxs] at h1
  exact ascI_pw _ h1.2
set_option maxHeartbeats 16000000 in
theorem impl_drop (B lo : Nat) (s : List RowD) (x : Int) (S : Nat → Prop) (w : World) (hlo : lo ≤ w.heap.size) (h : LkS B lo 0 S w s) :
    Calls Try.prog 61 #[.pointer (some ⟨B, 0, none⟩), .int .i64 x] w fun e w' => ∃ S' : Nat → Prop, e = .returned (.int .i64 (dropC s x).2) ∧ LkS B lo 0 S' w' (dropC s x).1 ∧ (∀ b, S' b → S b ∨ (w.heap.size ≤ b ∧ b < w'.heap.size)) ∧ ChgS (fun b => S b ∨ b = B) w w' := by
  obtain ⟨A, hA⟩ : ∃ A, dropC s x = A := ⟨_, rfl⟩
  obtain ⟨r1, hr1⟩ : ∃ r, setOk s = r := ⟨_, rfl⟩
  obtain ⟨r2, hr2⟩ : ∃ r, isVal x = r := ⟨_, rfl⟩
  obtain ⟨r3, hr3⟩ : ∃ r, hasC s x = r := ⟨_, rfl⟩
  have HOK := hid (fun w v (r : rdsL w v s) => impl_SetOkIs s r1 v w r hr1)
  have HHA := hid (fun w v (r : rdsL w v s) => impl_SetHas0 s x v w r)
  have HV := hid (fun w => impl_isVal16 x r2 w hr2)
  rw [hr3] at HHA
  rw [hA]
  have HA := hid hA
  have HR1 := hid hr1
  have HR2 := hid hr2
  have HR3 := hid hr3
  have hc0 := h.lockc
  have hf0 := h.lockf
  obtain ⟨W1, hW1⟩ : ∃ X, w.setCell ⟨B, 0, none⟩ (.int .i32 1) = X := ⟨_, rfl⟩
  have HL1 : Hid (LkS B lo 1 S W1 s) := by rw [← hW1]; exact hid (h.lock 1)
  have HC1 : Hid (ChgS (fun b => S b ∨ b = B) w W1) := by rw [← hW1]; exact hid ((ChgS.refl _ w).set _ _ (.inr rfl))
  have hs1 : W1.heap.size = w.heap.size := by rw [← hW1]; simp [World.setCell]
  clear hA hr1 hr2 hr3 h
  go_enter_defers Try.func61, Try.ntmps61
  go_wp2_with fail
  refine (Go.MuLone.lock_free muLib ⟨B, 0, none⟩ _ hc0 hf0).mono ?_
  rintro e w1 ⟨rfl, rfl⟩
  rw [hW1]
  clear hW1 hc0 hf0
  obtain ⟨g1, c1, k12, rd1⟩ := HL1.out.cell2
  go_wp2_with fail
  refine (HOK.out _ _ rd1).mono ?_
  rintro e w2 ⟨rfl, b2⟩
  have HL2 := hid (HL1.out.chg b2)
  have HC2 := hid (HC1.out.trans (ChgS.of_below b2 _))
  have hs2 := b2.size
  have HT2 := hid (show ∀ b, S b → S b ∨ (w.heap.size ≤ b ∧ b < w2.heap.size) from fun b hb => .inl hb)
  clear b2 k12 rd1 HL1 HC1 HOK
  cases r1 with
  | false =>
    have Hx := hid (show A = (s, 1) from HA.out.symm.trans (drop_bad (by rw [HR1.out]; rfl)))
    clear HA HR1 HR2 HR3 HV HHA
    have HLz := HL2
    have HTz := HT2
    have HCz := HC2
    go_wp2
    (refine leaves_cons (f := 71) (args := #[.pointer (some ⟨B, 0, none⟩)]) (by simp) (by simp [go_sem]) ?_; refine (Go.MuLone.unlock_deferred muLib ⟨B, 0, none⟩ _ _ HLz.out.lockc HLz.out.lockf).mono ?_; rintro e u' w7 ⟨rfl, rfl, rfl⟩; exact ⟨_, results_tmp rfl _ _ _, _, (by rw [Hx.out]; rfl), by rw [Hx.out]; exact HLz.out.lock 0, by rw [setCell_size16]; exact HTz.out, HCz.out.set _ _ (.inr rfl)⟩)
  | true =>
  go_wp2_with fail
  refine (HV.out _).mono ?_
  rintro e w2' ⟨rfl, rfl⟩
  clear HV
  cases r2 with
  | false =>
    have Hx := hid (show A = (s, 1) from HA.out.symm.trans (drop_bad (by rw [HR1.out, HR2.out]; rfl)))
    clear HA HR1 HR2 HR3 HHA
    have HLz := HL2
    have HTz := HT2
    have HCz := HC2
    go_wp2
    (refine leaves_cons (f := 71) (args := #[.pointer (some ⟨B, 0, none⟩)]) (by simp) (by simp [go_sem]) ?_; refine (Go.MuLone.unlock_deferred muLib ⟨B, 0, none⟩ _ _ HLz.out.lockc HLz.out.lockf).mono ?_; rintro e u' w7 ⟨rfl, rfl, rfl⟩; exact ⟨_, results_tmp rfl _ _ _, _, (by rw [Hx.out]; rfl), by rw [Hx.out]; exact HLz.out.lock 0, by rw [setCell_size16]; exact HTz.out, HCz.out.set _ _ (.inr rfl)⟩)
  | true =>
  have HG := hid (show (setOk s && isVal x) = true by rw [HR1.out, HR2.out]; rfl)
  obtain ⟨g2, c2, k22, rd2⟩ := HL2.out.cell2
  go_wp2_with fail
  refine (HHA.out _ _ rd2).mono ?_
  rintro e w3 ⟨rfl, b3⟩
  have HL3 := hid (HL2.out.chg b3)
  have HC3 := hid (HC2.out.trans (ChgS.of_below b3 _))
  have hs3 := b3.size
  have HT3 := hid (show ∀ b, S b → S b ∨ (w.heap.size ≤ b ∧ b < w3.heap.size) from fun b hb => .inl hb)
  clear b3 k22 rd2 HL2 HC2 HHA HT2
  cases r3 with
  | false =>
    have Hx := hid (show A = (s, 4) from HA.out.symm.trans (drop_none HG.out HR3.out))
    clear HA HR1 HR2 HR3 HG
    have HLz := HL3
    have HTz := HT3
    have HCz := HC3
    go_wp2
    (refine leaves_cons (f := 71) (args := #[.pointer (some ⟨B, 0, none⟩)]) (by simp) (by simp [go_sem]) ?_; refine (Go.MuLone.unlock_deferred muLib ⟨B, 0, none⟩ _ _ HLz.out.lockc HLz.out.lockf).mono ?_; rintro e u' w7 ⟨rfl, rfl, rfl⟩; exact ⟨_, results_tmp rfl _ _ _, _, (by rw [Hx.out]; rfl), by rw [Hx.out]; exact HLz.out.lock 0, by rw [setCell_size16]; exact HTz.out, HCz.out.set _ _ (.inr rfl)⟩)
  | true =>
  have hp0 := setOk_pos HR1.out
  have hn8 : s.length ≤ 1048576 := by omega
  have hp := plc_lt x hp0.1
  obtain ⟨g, c, hbx, hO, hS, hloB⟩ := HL3.out
  have HBK := hid (impl_bucketOf B g c s.length (.int .u32 0) 1 x hp0.1 hn8 w3 hbx)
  obtain ⟨p, hpe⟩ : ∃ p, plc x s.length = p := ⟨_, rfl⟩
  rw [hpe] at HBK hp
  have hbx9 := hid hbx
  have hO9 := hid hO
  have hS9 := hid hS
  clear hbx hO hS HL3
  go_wp2_with fail
  refine HBK.out.mono ?_
  rintro e w4 ⟨rfl, b4⟩
  have bx4 := hid (hbx9.out.below b4)
  have hO4 := hO9.out.keep (fun k hk => b4.block k (hS9.out k hk).2.1)
  have hS4 : ∀ b, S b → b < w4.heap.size := fun b hb => Nat.lt_of_lt_of_le (hS9.out b hb).2.1 b4.size
  have HC4 := hid (HC3.out.trans (ChgS.of_below b4 _))
  have hs4 := b4.size
  obtain ⟨g2, c3, u, Ri, ys, hys, hv, hSg, cg, fg, oR, hRi, hst, hfin⟩ := rows_at hO4 hS4 p hp
  obtain ⟨hg9, hc39⟩ : (⟨g, 0, none⟩ : Addr) = ⟨g2, 0, none⟩ ∧ c = c3 := by simp only [Value.slice.injEq, Option.some.injEq] at hv; exact ⟨hv.1, hv.2.2⟩
  obtain rfl : g = g2 := by simpa using hg9
  have hmem := has_mem HR1.out HR3.out hp hpe hys
  have hl24 : ys.length ≤ 1048576 := by
    have h1 := bkt_len_le s p hp
    have h2 := ok_all16 HR1.out
    rw [hys] at h1; omega
  obtain ⟨k, hk, hidx, hflt⟩ := idx_of (ok_pw HR1.out hp hys) hmem
  have Hx := hid (show A = (s.set p ⟨ys.take k ++ ys.drop (k+1)⟩, 0) from HA.out.symm.trans ((drop_done HG.out HR3.out hp hpe hys).trans (by rw [hflt])))
  obtain ⟨ya, yc, rfl, _, _⟩ := ownL_len oR
  have HIX := hid (impl_Index ys x hmem (.slice ya ys.length yc) w4 (rdsInts.1 oR.rds))
  have HDE := hid (impl_Delete ys k hk hl24 (.slice ya ys.length yc) w4 Ri oR)
  rw [hidx] at HIX
  have HFIN := hid hfin
  have HST := hid hst
  have HRI := hid hRi
  have hwk : IntKind.i64.wrap ((k : Int) + 1) = (k : Int) + 1 := by rw [IntKind.wrap_i64]; omega
  clear HA HR1 HR2 HR3 HG hfin hst hv hg9 hc39 oR hO4 hS4 hys hmem hidx hflt hpe hRi b4 HBK HC3 HT3
  go_wp2_with fail
  refine HIX.out.mono ?_
  rintro e w5 ⟨rfl, rfl⟩
  go_wp2_with fail
  refine HDE.out.mono ?_
  rintro e w6 ⟨u6, T, rfl, oT, hT, C6⟩
  obtain ⟨va, vc, rfl, -, -⟩ := ownL_len oT
  obtain ⟨⟨y7, k7⟩, f7⟩ := HST.out w6 C6
  have O9 := HFIN.out w6 _ ⟨ys.take k ++ ys.drop (k+1)⟩ T C6 oT (fun b hb => .inl (hT b hb))
  generalize ys.take k ++ ys.drop (k+1) = Z at *
  obtain ⟨W9, hW9⟩ : ∃ X, w6.setCell ⟨g, p, none⟩ (.slice va Z.length vc) = X := ⟨_, rfl⟩
  have hs9 : W9.heap.size = w6.heap.size := by rw [← hW9]; simp [World.setCell]
  have hs6 := C6.size
  have hgB : g ≠ B := (hS9.out g hSg).2.2
  have hnB : ¬ Ri B := fun e => (hS9.out B (HRI.out B e).1).2.2 rfl
  have bx6 := bx4.out.chg C6 hnB
  have hL9 : LkS B lo 1 S W9 (s.set p ⟨Z⟩) := by
    rw [hW9] at O9
    have hlen : (s.set p (⟨Z⟩ : RowD)).length = s.length := by simp
    refine ⟨g, c, ?_, ?_, ?_, hloB⟩
    · rw [hlen, ← hW9]; exact bx6.other ⟨g, p, none⟩ _ (by show g ≠ B; exact hgB)
    · rw [hlen]; exact O9.mono fun b hb => by
        rcases hb with h9 | h9
        · exact h9
        · exact (HRI.out b (hT b h9)).1
    · intro b hb
      have z := hS9.out b hb
      exact ⟨z.1, by omega, z.2.2⟩
  have HLz := hid hL9
  have HCz : Hid (ChgS (fun b => S b ∨ b = B) w W9) := by
    rw [← hW9]
    exact hid ((HC4.out.trans (C6.mono fun b hb => .inl (HRI.out b hb).1)).set _ _ (.inl hSg))
  have HTz := hid (show ∀ b, S b → S b ∨ (w.heap.size ≤ b ∧ b < W9.heap.size) from fun b hb => .inl hb)
  clear O9 HFIN HST HDE HIX oT C6 bx6 hL9
  go_wp2
  try rw [hW9]
  (refine leaves_cons (f := 71) (args := #[.pointer (some ⟨B, 0, none⟩)]) (by simp) (by simp [go_sem]) ?_; refine (Go.MuLone.unlock_deferred muLib ⟨B, 0, none⟩ _ _ HLz.out.lockc HLz.out.lockf).mono ?_; rintro e u' w7 ⟨rfl, rfl, rfl⟩; exact ⟨_, results_tmp rfl _ _ _, _, (by rw [Hx.out]; rfl), by rw [Hx.out]; exact HLz.out.lock 0, by rw [setCell_size16]; exact HTz.out, HCz.out.set _ _ (.inr rfl)⟩)
end Go.Proofs.Ytdgmbcmgjadoiaa
