/- Chapter 5's program: ReadSchedule, from word to word by goto. -/
import Derived.Test.YtjcoakgdhiiiaaaDoorI5w
import Derived.Test.YtjcoakgdhiiiaaaDoorW5
import Derived.Lib.IndexLaws
import Derived.ScopeJumps
import Derived.WalkMore
namespace Go.Proofs.YtjcoakgdhiiiaaaDoor
set_option maxRecDepth 100000
open Go.RowKit Go.Proofs Go.Own
set_option linter.unusedVariables false
set_option linter.unusedSimpArgs false
theorem endFrom_at (s : ByteArray) (E : Nat) (hE : E ≤ s.size) (he : E = s.size ∨ bt s E = 32) : ∀ n A, A + n = E → (∀ j, A ≤ j → j < E → bt s j ≠ 32) → endFrom s (s.size - A) A = E
  | 0, A, h, hj => by
    obtain rfl : A = E := by omega
    rcases he with e | e
    · rw [e, Nat.sub_self]; rfl
    · by_cases hlt : A < s.size
      · exact end_blank hlt e
      · rw [show s.size - A = 0 by omega]; rfl
  | n+1, A, h, hj => by
    rw [end_on (by omega) (hj A (Nat.le_refl _) (by omega))]
    exact endFrom_at s E hE he n (A + 1) (by omega) (fun j h1 h2 => hj j (by omega) h2)
theorem bt_get (s : ByteArray) (j : Nat) : bt s j = (s.data.toList[j]?.map UInt8.toNat).getD 0 := bt_BA s.data.toList j
/-- The next word of a text, and where it ends. -/
theorem cut_word (s : ByteArray) (A : Nat) (hA : A ≤ s.size) : ∃ E, A ≤ E ∧ E ≤ s.size ∧ endFrom s (s.size - A) A = E ∧ BA (Lib.cut (s.extract A s.size).data.toList [32]).1 = s.extract A E ∧ (Lib.cut (s.extract A s.size).data.toList [32]).2.2 = decide (E < s.size) := by
  have hl : (s.extract A s.size).data.toList = s.data.toList.drop A := by
    have e : s.data.toList.length = s.size := rfl
    rw [Lib.extract_eq]
    simp only
    rw [List.take_of_length_le (by rw [List.length_drop]; omega)]
  have hsz : (s.extract A s.size).size = s.size - A := by rw [ByteArray.size_extract]; omega
  have hb : ∀ k, bt s (A + k) = ((s.extract A s.size).data.toList[k]?.map UInt8.toNat).getD 0 := fun k => by rw [bt_get, hl, List.getElem?_drop]
  rcases Lib.indexB_cases (s.extract A s.size) ⟨#[32]⟩ with hix | ⟨i, hix, hroom⟩
  · obtain ⟨e1, e2, e3⟩ := Lib.cutB_miss (s.extract A s.size) ⟨#[32]⟩ hix
    have q : Lib.indexByte (s.extract A s.size).data.toList 32 = -1 := (Lib.index_one _ 32).symm.trans hix
    refine ⟨s.size, hA, Nat.le_refl _, endFrom_at s s.size (Nat.le_refl _) (.inl rfl) (s.size - A) A (by omega) (fun j h1 h2 hj => ?_), e1, ?_⟩
    · obtain ⟨k, rfl⟩ : ∃ k, j = A + k := ⟨j - A, by omega⟩
      have hn := Lib.indexByte_none q k
      rw [hb k] at hj
      cases hk : (s.extract A s.size).data.toList[k]? with
      | none => rw [hk] at hj; simp at hj
      | some x =>
        rw [hk] at hj hn
        simp only [Option.map_some, Option.getD_some] at hj
        exact hn (congrArg some (UInt8.toNat_inj.1 hj))
    · rw [show (Lib.cut (s.extract A s.size).data.toList [32]).2.2 = false from e3]
      simp
  · obtain ⟨e1, e2, e3⟩ := Lib.cutB_hit (s.extract A s.size) ⟨#[32]⟩ i hix
    have q : Lib.indexByte (s.extract A s.size).data.toList 32 = i := (Lib.index_one _ 32).symm.trans hix
    obtain ⟨q1, q2⟩ := Lib.indexByte_some q
    have hr : i + 1 ≤ (s.extract A s.size).size := hroom
    rw [hsz] at hr
    refine ⟨A + i, by omega, by omega, endFrom_at s (A + i) (by omega) (.inr (by rw [hb i, q1]; rfl)) i A rfl (fun j h1 h2 hj => ?_), ?_, ?_⟩
    · obtain ⟨k, rfl⟩ : ∃ k, j = A + k := ⟨j - A, by omega⟩
      have hn := q2 k (by omega)
      rw [hb k] at hj
      cases hk : (s.extract A s.size).data.toList[k]? with
      | none => rw [hk] at hj; simp at hj
      | some x =>
        rw [hk] at hj hn
        simp only [Option.map_some, Option.getD_some] at hj
        exact hn (congrArg some (UInt8.toNat_inj.1 hj))
    · have e4 : BA (Lib.cut (s.extract A s.size).data.toList [32]).1 = (s.extract A s.size).extract 0 i := e1
      rw [e4]
      apply ByteArray.ext
      simp only [ByteArray.data_extract, Array.extract_extract]
      congr 1 <;> omega
    · rw [show (Lib.cut (s.extract A s.size).data.toList [32]).2.2 = true from e3]
      exact (decide_eq_true (by omega)).symm
theorem wp_scope_jumps2 {P : Program} {a : Act} {w : World} {Q : Exit → Act → World → Prop} {c R : Code} (l : Nat) (J : Act → World → Prop) (μ : Act → World → Nat) (hf : findLabel c l = some (Code.seq Code.skip R))
    (pass : ∀ a w, J a w → R.wp P (Exit.jump l (fun a' w' => J a' w' ∧ μ a' w' < μ a w) Q) a w)
    (first : (∀ a w, J a w → R.wp P (Exit.jump l J Q) a w) → c.wp P (Exit.jump l J Q) a w) : (Code.scope c).wp P Q a w :=
  wp_scope_jumps l J μ hf (first fun a w h => Code.wp_mono (fun e a' w' hq => by
    cases e with
    | goto l' => exact ⟨hq.1, hq.2.1⟩
    | normal => exact hq
    | ret => exact hq
    | exit => exact hq
    | panic => exact hq
    | outgrown => exact hq) (pass a w h)) (fun a w h => wp_seq (wp_skip (pass a w h)))
theorem jump_ret {l : Nat} {J : Act → World → Prop} {Q : Exit → Act → World → Prop} {a : Act} {w : World} (h : Q .ret a w) : Exit.jump l J Q .ret a w := h
theorem jump_goto {l : Nat} {J : Act → World → Prop} {K : Act → World → Prop} {Q : Exit → Act → World → Prop} {a : Act} {w : World} (h : J a w) : Exit.then K (Exit.jump l J Q) (.goto l) a w := ⟨rfl, h⟩
set_option maxHeartbeats 8000000 in
theorem impl_ReadSchedule (s : ByteArray) (w : World) (hs : s.size ≤ 1048576) (hv : Env w) :
    Calls Tryd.prog 11 #[.string s] w fun e w' => ReadR w.heap.size e w' (readC s) ∧ Below w.heap.size w w' := by
  obtain ⟨i0, hi, hz0, hz1, hz2⟩ := info_parts infoRun5
  by_cases s6 : (600 : Int) < (s.size : Int)
  · have Hy := hid (show readC s = ([], 1, 0) from if_pos (by omega))
    go_enter Tryd.func11, Tryd.ntmps11
    go_wp2
    go_step3
    go_wp2
    rw [Exit.noGoto_ret]
    go_ret3
    exact ⟨readR_of Hy.out rfl (World.ownsRow_nil _ _ _ _), Below.refl _ _⟩
  by_cases s0 : s.size = 0
  · have Hy := hid (show readC s = ([], 0, 0) by unfold readC; rw [if_neg (by omega), if_pos (by omega)])
    obtain rfl : s = ⟨#[]⟩ := by
      apply ByteArray.ext
      exact Array.eq_empty_of_size_eq_zero s0
    go_enter Tryd.func11, Tryd.ntmps11
    go_wp2
    go_step3
    go_wp2
    rw [Exit.noGoto_ret]
    go_ret3
    exact ⟨readR_of Hy.out rfl (World.ownsRow_nil _ _ _ _), Below.refl _ _⟩
  have hne : ¬ s = ⟨#[]⟩ := fun h => s0 (by rw [h]; rfl)
  have hq2 : s.toList.isEmpty = false := by
    rw [Lib.toList_data, List.isEmpty_eq_false_iff]
    intro h
    exact s0 (by have := congrArg List.length h; simpa using this)
  clear hne
  have hs6 : s.size ≤ 600 := by omega
  have hC := hid (show readC s = readFrom s (s.size + 1) 0 [] 0 by unfold readC; rw [if_neg (by omega), if_neg (by omega)])
  go_enter Tryd.func11, Tryd.ntmps11
  go_wp2
  refine wp_scope_jumps2 0 (fun a' wr => ∃ (A f : Nat) (O : List Run) (T : Int) (o u15 u8 u9 u10 u11 u12 u18 u19 u20 u21 u22 u23 u24 u25 u26 u27 u28 u29 u30 u31 u32 u33 u34 u35 u36 u37 u38 u39 u40 u41 u42 u43 u44 u45 u46 u47 u48 u49 u50 u51 u52 u53 u54 u55 u56 : Value), a' = { tmps := #[.string s, undef, .slice none 0 0, .int .i64 0, .int .i64 0, o, .int .i64 T, .int .i64 A, u8, u9, u10, u11, u12, .string s, .int .i64 s.size, u15, .string s, .bool false, u18, u19, u20, u21, u22, u23, u24, u25, u26, u27, u28, u29, u30, u31, u32, u33, u34, u35, u36, u37, u38, u39, u40, u41, u42, u43, u44, u45, u46, u47, u48, u49, u50, u51, u52, u53, u54, u55, u56], defers := [] } ∧ A ≤ s.size ∧ s.size + 1 ≤ A + f ∧ O.length ≤ 60 ∧ 0 ≤ T ∧ T ≤ 1500 ∧ wr.ownsRow w.heap.size 37 2 o O.length (O.flatMap Run.enc) ∧ Hid (readC s = readFrom s f A O T) ∧ Below w.heap.size w wr) (fun a' _ => s.size + 2 - (intOf (a'.tmps.getD 7 undef)).toNat) rfl ?_ ?_
  · rintro _ wr ⟨A, f, O, T, o, u15, u8, u9, u10, u11, u12, u18, u19, u20, u21, u22, u23, u24, u25, u26, u27, u28, u29, u30, u31, u32, u33, u34, u35, u36, u37, u38, u39, u40, u41, u42, u43, u44, u45, u46, u47, u48, u49, u50, u51, u52, u53, u54, u55, u56, rfl, hA, hf, hO, hT0, hT1, ho, hR, hB⟩
    obtain ⟨E, hAE, hE, hEnd, hcw, hcb⟩ := cut_word s A hA
    have hcut := hid (fun W => cut2 (s.extract A s.size) 32 W (by rw [ByteArray.size_extract]; omega))
    have HEnd := hid hEnd
    obtain ⟨R2, hR2⟩ : ∃ R2, Hid (BA (Lib.cut (s.extract A s.size).data.toList [32]).2.1 = R2) := ⟨_, hid rfl⟩
    have hcut2 := hid (fun W => by have h9 := hcut.out W; rw [hcw, hcb, hR2.out] at h9; exact h9)
    clear hcut hEnd hcw hcb hR2
    have hA0 : (0 : Int) ≤ (A : Int) := by omega
    have hA1 : (A : Int) ≤ (s.size : Int) := by omega
    have hv1 := env_below hv hB
    go_wp2_with fail
    refine (hcut2.out wr).mono ?_
    rintro e w2 ⟨rfl, b2⟩
    have hB2 := hB.trans (b2.mono hB.size)
    have o2 := owns_below ho b2
    have hv2 := env_below hv1 b2
    have hEs : (s.extract A E).size = E - A := by rw [ByteArray.size_extract]; omega
    clear hv1 hcut2 ho hB b2
    obtain ⟨ad, cap, rfl, hl, hm⟩ := (Flat.of_owns o2).form
    go_wp2_with fail
    refine (impl_runOf (s.extract A E) w2 (by omega) hv2).mono ?_
    rintro e w3 ⟨⟨r, B, rfl, hwc⟩, b3⟩
    have hB3 := hB2.trans (b3.mono hB2.size)
    have o3 := owns_below o2 b3
    have z3 := hB3.size
    clear o2 hB2 b3 hv2
    cases B with
    | false =>
      have Hx := hid (hR.out.trans (read_word (T := T) hA hf HEnd.out hwc))
      clear hwc
      go_wp2
      refine jump_ret ?_
      go_ret3
      exact ⟨readR_of Hx.out rfl (World.ownsRow_nil _ _ _ _), hB3.alloc z3 _⟩
    | true =>
      have Hw := hid hwc
      have hmm := wordC_many hwc
      have m1 := hmm.1
      have m2 := hmm.2
      clear hmm hwc
      obtain ⟨W4, hW4⟩ : ∃ X, w3.alloc (.cells #[Value.int .i64 r.thread_, Value.int .i64 r.many_] 37) = X := ⟨_, rfl⟩
      have hB4 : Below w.heap.size w W4 := by rw [← hW4]; exact hB3.alloc z3 _
      have bx : BoxF W4 w3.heap.size [Value.int .i64 r.thread_, Value.int .i64 r.many_] := by rw [← hW4]; exact BoxF.alloc w3 #[Value.int .i64 r.thread_, Value.int .i64 r.many_] 37
      have o4 : W4.ownsRow w.heap.size 37 2 (.slice ad O.length cap) O.length (O.flatMap Run.enc) := by rw [← hW4]; exact World.ownsRow.alloc o3 _
      have g0 : W4.cell? ⟨w3.heap.size, 0, none⟩ = some (.int .i64 r.thread_) := bx.1.2 0 (by simp)
      have g1 : W4.cell? ⟨w3.heap.size, 1, none⟩ = some (.int .i64 r.many_) := bx.1.2 1 (by simp)
      have z4 := hB4.size
      clear o3 hB3 z3 bx
      by_cases full : (O.length : Int) = 60
      · have full2 : ((O.length : Int) == 60) = true := by rw [full]; rfl
        have Hx := hid (hR.out.trans (read_many (T := T) hA hf HEnd.out Hw.out (Or.inl (by omega))))
        clear full
        go_wp2
        refine jump_ret ?_
        go_ret3
        exact ⟨readR_of Hx.out rfl (World.ownsRow_nil _ _ _ _), hB4⟩
      have full2 : ((O.length : Int) == 60) = false := beq_eq_false_iff_ne.mpr full
      by_cases over : (1500 : Int) < T + r.many_
      · have Hx := hid (hR.out.trans (read_many (T := T) hA hf HEnd.out Hw.out (Or.inr over)))
        clear full
        go_wp2
        refine jump_ret ?_
        go_ret3
        exact ⟨readR_of Hx.out rfl (World.ownsRow_nil _ _ _ _), hB4⟩
      have Hx := hid (hR.out.trans (read_step (T := T) hA hf HEnd.out Hw.out (by omega)))
      have Hfull := hid full
      clear full
      have oA := World.ownsRow.alloc o4 (.cells #[.int .i64 r.thread_, .int .i64 r.many_] 37)
      have lit := Flat.of_owns (owns_litN W4 37 2 1 #[.int .i64 r.thread_, .int .i64 r.many_] 0 (Nat.zero_le _) rfl (by decide))
      clear o4
      go_wp2_with (at_builtin; refine wpList_append_flat rfl _ _ 26 rfl w.heap.size 37 i0 (.agg #[.int .i64 0, .int .i64 0]) 2 16 Tryd.underlying26 hi hz0 hz1 hz2 rfl (by decide) _ _ _ rfl oA _ 1 [.int .i64 r.thread_, .int .i64 r.many_] rfl lit (by intro c hc; simp at hc; rcases hc with rfl | rfl <;> rfl) (by unfold maxLen; omega) (by omega) (by simp; omega) ?_)
      intro v5 w5 o5 g5
      have b5 := below_of_mark oA g5 (Nat.le_refl _) (by simp; omega)
      have hB5 := Below.trans (hB4.alloc z4 _) b5
      have hO5 := Hfull.out
      clear lit oA g5 b5 hW4
      by_cases hlt : E < s.size
      · have hd : decide (E < s.size) = true := decide_eq_true hlt
        rw [hd]
        have hAt : (A : Int) + (((E - A : Nat) : Int) + 1) = ((E + 1 : Nat) : Int) := by omega
        have hAt2 := hid hAt
        clear hAt
        go_wp2
        rw [hAt2.out]
        go_step3
        refine jump_goto ⟨⟨E + 1, f - 1, O ++ [r], T + r.many_, v5, _, _, _, _, _, _, _, _, _, _, _, _, _, _, _, _, _, _, _, _, _, _, _, _, _, _, _, _, _, _, _, _, _, _, _, _, _, _, _, _, _, _, _, _, _, rfl, by omega, by omega, by simp; omega, by omega, by omega, by rw [encR_snoc, List.length_append]; exact o5, Hx, hB5⟩, ?_⟩
        simp [intOf]
        omega
      · have hd : decide (E < s.size) = false := decide_eq_false hlt
        rw [hd]
        have Hd := hid (Hx.out.trans (read_done s (f - 1) (E + 1) (O ++ [r]) (T + r.many_) (by omega)))
        go_wp2
        refine jump_ret ?_
        go_ret3
        exact ⟨readR_of Hd.out rfl (by rw [encR_snoc, List.length_append]; exact o5), hB5⟩
  · intro hp
    go_wp2
    go_step3
    rename_i hk
    exact hk _ _ (hp _ _ ⟨0, s.size + 1, [], 0, _, _, _, _, _, _, _, _, _, _, _, _, _, _, _, _, _, _, _, _, _, _, _, _, _, _, _, _, _, _, _, _, _, _, _, _, _, _, _, _, _, _, _, _, _, _, rfl, by omega, by omega, by simp, by omega, by omega, World.ownsRow_nil _ _ _ _, hC, Below.refl _ _⟩)
theorem impl_ReadScheduleW (s : ByteArray) (w : World) (hv : Env w) (hs : s.size ≤ 1048576 := by assumption) :
    Calls Tryd.prog 11 #[.string s] w fun e w' => ∃ v' : Value, e = .returned (.tuple #[v', .int .i64 (readC s).2.1, .int .i64 (readC s).2.2]) ∧ w'.ownsRow w.heap.size 37 2 v' (readC s).1.length ((readC s).1.flatMap Run.enc) ∧ (readC s).1.length ≤ 1048576 ∧ Below w.heap.size w w' :=
  (impl_ReadSchedule s w hs hv).mono fun _ _ ⟨⟨v', he, o⟩, b⟩ => ⟨v', he, o, readC_len s, b⟩
end Go.Proofs.YtjcoakgdhiiiaaaDoor
