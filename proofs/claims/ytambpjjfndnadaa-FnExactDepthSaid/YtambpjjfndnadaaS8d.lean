/- Chapter 8's model: Depth. -/
import Derived.Test.YtambpjjfndnadaaS7d
import Derived.Test.YtambpjjfndnadaaF8d
import Derived.Test.YtambpjjfndnadaaN8o
import Derived.Test.YtambpjjfndnadaaWr3
import Derived.Deep.Cut
namespace Go.Proofs.Ytambpjjfndnadaa
set_option maxRecDepth 100000
open Go.RowKit Go.Proofs Go.Own
open Go Go.BigFrame
set_option linter.unusedVariables false
set_option linter.unusedSimpArgs false
def sliceLen : Value → Nat
  | .slice _ n _ => n
  | _ => 0
theorem encI_snoc8 (xs : List Int) (x : Int) : (xs ++ [x]).flatMap encI = xs.flatMap encI ++ [Value.int .i64 x] := by simp [encI]
/-- Where the inner walk stands. -/
def NextAt (hs : List Head) (d : Int) (ES : List Entry) (j : Nat) (nx : Int) : Prop := (nx = -1 ∧ wayAt hs d ES j = wayAt hs d ES 0) ∨ (0 ≤ nx ∧ nx = wayAt hs d ES 0)
set_option maxHeartbeats 8000000 in
theorem spec_Depth0 (hs : List Head) (ds : List DescD) (v0 v1 : Value) (fr : Int) (w : World) (h0 : rdsL w v0 hs) (h1 : rdsL w v1 ds) :
    Calls Try.prog 37 #[.agg #[v0, v1], .int .i64 fr] w fun e w' => e = .returned (.int .i64 (depthC hs ds fr)) ∧ Below w.heap.size w w' := by
  obtain ⟨i0, hi, hz0, hz1, hz2⟩ := info_parts infoInt
  have H0 := hid h0
  have H1 := hid h1
  obtain ⟨a0, cap0, rfl, hl0, hm0, hc0⟩ := rdsL_open h0
  obtain ⟨a1, cap1, rfl, hl1, hm1, hc1⟩ := rdsL_open h1
  have HC := hid hc0
  have DC := hid hc1
  clear h0 h1 hc0 hc1
  have hlen0 : hs.length ≤ 9223372036854775807 := by omega
  have hlen1 : ds.length ≤ 9223372036854775807 := by omega
  obtain ⟨W1, hW1⟩ : ∃ X, w.alloc (.cells #[Value.slice a0 hs.length cap0, Value.slice a1 ds.length cap1] 32) = X := ⟨_, rfl⟩
  have hB1 : Below w.heap.size w W1 := by rw [← hW1]; exact (Below.refl _ _).alloc (Nat.le_refl _) _
  have bp : BoxF W1 w.heap.size [Value.slice a0 hs.length cap0, Value.slice a1 ds.length cap1] := by rw [← hW1]; exact BoxF.alloc w #[Value.slice a0 hs.length cap0, Value.slice a1 ds.length cap1] 32
  have k0 : W1.cell? ⟨w.heap.size, 0, none⟩ = some (Value.slice a0 hs.length cap0) := bp.1.2 0 (by simp)
  have k1 : W1.cell? ⟨w.heap.size, 1, none⟩ = some (Value.slice a1 ds.length cap1) := bp.1.2 1 (by simp)
  have R0 := hid (rdsL.below H0.out hB1)
  have R1 := hid (rdsL.below H1.out hB1)
  have hu := hid (show depthC hs ds fr = (if (storeOk hs ds && inB fr 0 ((ds.length : Int) - 1)) = true then ((depthGo hs ds 61 fr []).length : Int) else 0) from rfl)
  go_enter Try.func37, Try.ntmps37
  go_wp2_with fail
  try rw [hW1]
  clear hW1
  refine (spec_StoreOk0 hs ds _ _ _ R0.out R1.out).mono ?_
  rintro e w2 ⟨rfl, b2⟩
  have hB2 := hB1.trans (b2.mono hB1.size)
  have hs2 := b2.size
  have hN1 := bp.1.1
  have BP2 := hid (bp.below b2)
  have l1 : w2.cell? ⟨w.heap.size, 1, none⟩ = some (Value.slice a1 ds.length cap1) := BP2.out.1.2 1 (by simp)
  clear bp k0 k1 R0 R1 b2
  cases hso : storeOk hs ds with
  | false =>
    have Hn := hid (show depthC hs ds fr = 0 by rw [hu.out, hso]; rfl)
    go_wp2
    go_ret
    exact ⟨ret_int Hn.out.symm, hB2⟩
  | true =>
  have HSO := hid hso
  cases hb : inB fr 0 ((ds.length : Int) - 1) with
  | false =>
    have Hn := hid (show depthC hs ds fr = 0 by rw [hu.out, hb, Bool.and_false]; rfl)
    go_wp2_with (go_at_call 61; refine (spec_l1In _ _ _ _).mono ?_; rintro e w' ⟨rfl, rfl⟩)
    go_ret
    exact ⟨ret_int Hn.out.symm, hB2⟩
  | true =>
  obtain ⟨hd1, hd2⟩ : 0 ≤ fr ∧ fr ≤ (ds.length : Int) - 1 := by simpa [inB] using hb
  have hu2 := hid (show depthC hs ds fr = ((depthGo hs ds 61 fr []).length : Int) by rw [hu.out, hso, hb]; rfl)
  have HW0 := hid (WayAt.zero (hs := hs) (ds := ds) (d := fr) ⟨hd1, by omega⟩)
  have O1 : Hid ((w2.alloc (.cells #[] 3)).ownsRow (w.heap.size + 1) 3 1 (.slice (some ⟨w2.heap.size, 0, none⟩) 0 0) 0 []) := hid (owns_litN w2 3 1 0 #[] (w.heap.size + 1) (by omega) rfl (Nat.zero_le _))
  have hBA : Below w2.heap.size w2 (w2.alloc (.cells #[] 3)) := (Below.refl _ _).alloc (Nat.le_refl _) _
  have hB3 := hid (hB2.trans (hBA.mono hB2.size))
  have BP3 := hid (BP2.out.below hBA)
  clear hso hu hd1 hd2 hBA
  go_wp2_with (go_at_call 61; refine (spec_l1In _ _ _ _).mono ?_; rintro e w' ⟨rfl, rfl⟩)
  clear hb l1
  go_loopw [6, 5] (fun i u wr => ∃ (d : Int) (way : List Int) (ua : Option Addr) (um uc : Nat), i = .int .i64 d ∧ u = Value.slice ua um uc ∧ um = way.length ∧ Hid (WayAt hs ds fr d way) ∧ Below w.heap.size w wr ∧ w.heap.size + 1 ≤ wr.heap.size ∧ Hid (BoxF wr w.heap.size [Value.slice a0 hs.length cap0, Value.slice a1 ds.length cap1]) ∧ Hid (wr.ownsRow (w.heap.size + 1) 3 1 (Value.slice ua um uc) way.length (way.flatMap encI))) (fun _ u _ => 61 - sliceLen u)
  case atStart => exact ⟨fr, [], _, _, _, rfl, rfl, rfl, HW0, hB3.out, by simp; omega, BP3, O1⟩
  case round =>
    clear hB1 hB2 BP2 O1 hB3 BP3 HW0 hs2 hN1
    obtain ⟨d, way, ua, um, uc, rfl, rfl, rfl, HW, hB, hM, BP, O1⟩ := hrel
    have h60 : ds.length ≤ 60 := (storeOk_all HSO.out).2.1
    have hwl : way.length ≤ 60 := by have := HW.out.len; omega
    have q0 : wr.cell? ⟨w.heap.size, 0, none⟩ = some (Value.slice a0 hs.length cap0) := BP.out.1.2 0 (by simp)
    have q1 : wr.cell? ⟨w.heap.size, 1, none⟩ = some (Value.slice a1 ds.length cap1) := BP.out.1.2 1 (by simp)
    by_cases hd0 : 0 ≤ d
    · have hI := Flat.of_owns O1.out
      by_cases hmem : d ∈ way
      · have hhf : hasFrom way d 0 = true := by unfold hasFrom; simpa using hmem
        have Hn := hid (HW.out.done HSO.out (fun h => h.2 hmem))
        go_wp2_with (first | (go_at_call 65; refine (spec_l1Has _ way d _ hI).mono ?_; rintro e w' ⟨rfl, rfl⟩))
        go_ret
        exact ⟨ret_int (by rw [hu2.out, Hn.out]), hB⟩
      · have hhf : hasFrom way d 0 = false := by unfold hasFrom; simpa using hmem
        have HWs := hid (HW.out.step HSO.out hd0 hmem)
        obtain ⟨k, rfl⟩ := Int.eq_ofNat_of_zero_le hd0
        have hk : k < ds.length := by have := HW.out.2.2.1; omega
        have hki : (k : Int) < (ds.length : Int) := by omega
        obtain ⟨bb, off, cs, rfl, hbs, ⟨v2, rfl, h2⟩, hcell⟩ := DC.out k hk
        obtain ⟨ES, hES⟩ : ∃ ES, Hid (ds[k].entries_ = ES) := ⟨_, hid rfl⟩
        have hwo := hid (show wayOf hs ds k = wayAt hs k ES 0 by unfold wayOf; rw [entsAt_eq hk, hES.out])
        have HO := hid (show ∀ j, (hj : j < ES.length) → ∃ o : Nat, ES[j].object_ = o ∧ o < hs.length from fun j hj => by
          have h9 := hES.out
          subst h9
          exact cur_obj HSO.out hk hj)
        rw [hES.out] at h2
        obtain ⟨a2, cap2, rfl, hl2, hm2, hc2⟩ := (rdsEntrys.1 h2).open
        have HE := hid hc2
        have hlenE : ES.length ≤ 9223372036854775807 := by omega
        have e2 := hid (show w.cell? ⟨bb, off + k * 3 + 2, none⟩ = some (Value.slice a2 ES.length cap2) from hcell 2 (show 2 < 3 by omega))
        obtain ⟨W3, hW3⟩ : ∃ X, wr.alloc (.cells #[.int .i64 (k : Int)] 3) = X := ⟨_, rfl⟩
        have b23 : Below wr.heap.size wr W3 := by rw [← hW3]; exact (Below.refl _ _).alloc (Nat.le_refl _) _
        have hB3 := hB.trans (b23.mono hB.size)
        have hl3 : Flat W3 (.slice (some ⟨wr.heap.size, 0, none⟩) 1 1) 1 1 [.int .i64 (k : Int)] := by rw [← hW3]; exact Flat.of_owns (owns_litN wr 3 1 1 #[.int .i64 (k : Int)] 0 (Nat.zero_le _) rfl (by decide))
        have O3 := owns_below O1.out b23
        have hone : ∀ c ∈ [Value.int .i64 (k : Int)], c.oneCell' = true := by intro c hc; simp at hc; subst hc; rfl
        have hs3' : w.heap.size + 1 ≤ W3.heap.size := by have := b23.size; omega
        have BP3 := BP.out.below b23
        have hwl2 : way.length ≤ 60 := hwl
        have hk00 : (0 : Int) ≤ (k : Int) := by omega
        clear h2 hc2 hcell DC hmem hd0
        go_wp2_with (first | (go_at_call 65; refine (spec_l1Has _ way (k : Int) _ hI).mono ?_; rintro e w' ⟨rfl, rfl⟩) | (at_builtin; refine wpList_append_flat rfl _ _ 88 rfl (w.heap.size + 1) 3 i0 (.int .i64 0) 1 8 Try.underlying88 hi hz0 hz1 hz2 rfl (by decide) _ _ _ rfl O3 _ _ _ rfl hl3 hone (by unfold maxLen; omega) (by omega) hs3' ?_))
        intro v4 w4 o4 g4
        obtain ⟨ya, ym, yc, rfl⟩ := owns_form3 o4
        have hB4 : Below w.heap.size w w4 := hB3.trans (below_grown g4 hB3.size fun b e => by have := (World.ownsRow.lt O3 b e).1; omega)
        have BP4 := hid (BP3.grown g4 (fun e => by have := (World.ownsRow.lt O3 _ e).1; omega))
        have hym : Hid (ym = way.length + 1) := by
          obtain ⟨-, h9⟩ := o4
          rcases h9 with ⟨-, h9⟩ | ⟨g9, c9, -, h9, -⟩
          · omega
          · simp only [Value.slice.injEq] at h9; exact hid h9.2.1
        have O4 := hid (show w4.ownsRow (w.heap.size + 1) 3 1 (Value.slice ya ym yc) (way ++ [(k : Int)]).length ((way ++ [(k : Int)]).flatMap encI) by rw [encI_snoc8, List.length_append]; exact o4)
        have hs4 : w.heap.size + 1 ≤ w4.heap.size := by have := g4.size; omega
        clear o4 g4 O3 BP3 hl3 hW3 b23 hone hI O1 BP q0 q1 hB3 hs3'
        go_wp2
        go_loopw [8, 7] (fun i u wq => ∃ (j : Nat) (nx : Int), i = .int .i64 j ∧ u = .int .i64 nx ∧ j ≤ ES.length ∧ Hid (NextAt hs k ES j nx) ∧ Below w4.heap.size w4 wq) (fun i _ _ => ES.length - (intOf i).toNat)
        case atStart => exact ⟨0, -1, rfl, rfl, by omega, hid (.inl ⟨rfl, rfl⟩), Below.refl _ _⟩
        case round =>
          obtain ⟨j, nx, rfl, rfl, hj, HX, hBq⟩ := hrel
          have hBw := hid (hB4.trans (hBq.mono hB4.size))
          have BPq := hid (BP4.out.below hBq)
          have p0 : wr.cell? ⟨w.heap.size, 0, none⟩ = some (Value.slice a0 hs.length cap0) := BPq.out.1.2 0 (by simp)
          have p1 : wr.cell? ⟨w.heap.size, 1, none⟩ = some (Value.slice (some ⟨bb, off, none⟩) ds.length cap1) := BPq.out.1.2 1 (by simp)
          have e2q : wr.cell? ⟨bb, off + k * 3 + 2, none⟩ = some (Value.slice a2 ES.length cap2) := (hBw.out.cell (p := ⟨bb, off + k * 3 + 2, none⟩) hbs).trans e2.out
          have hk0 : (0 : Int) ≤ (k : Int) := by omega
          by_cases hgo : j < ES.length ∧ nx < 0
          · obtain ⟨hlt, hneg⟩ := hgo
            have hnx : nx = -1 := by rcases HX.out with h | h; exact h.1; omega
            have hwa := hid (show wayAt hs k ES j = wayAt hs k ES 0 by rcases HX.out with h | h; exact h.2; omega)
            subst hnx
            obtain ⟨o, ho, hol⟩ := HO.out j hlt
            obtain ⟨b2, off2, rfl, hb2, c0, -, -, -, -⟩ := HE.out j hlt
            obtain ⟨b3, off3, cs3, rfl, hb3, rfl, hcell3⟩ := HC.out o hol
            obtain ⟨H, hH⟩ : ∃ H, Hid (hs[o] = H) := ⟨_, hid rfl⟩
            have d0 : w.cell? ⟨b3, off3 + o * 3, none⟩ = some (.int .i64 H.value_) := by rw [← hH.out]; exact hcell3 0 (show 0 < 3 by omega)
            have d1 : w.cell? ⟨b3, off3 + o * 3 + 1, none⟩ = some (.int .i64 H.version_) := by rw [← hH.out]; exact hcell3 1 (show 1 < 3 by omega)
            have d2 : w.cell? ⟨b3, off3 + o * 3 + 2, none⟩ = some (.int .i64 H.desc_) := by rw [← hH.out]; exact hcell3 2 (show 2 < 3 by omega)
            rw [ho] at c0
            have hA := hid (show (hAt hs ES[j].object_).desc_ = H.desc_ by rw [ho, hAt_eq hol, hH.out])
            have hWy := hid (show wayH hs k ES[j] = (decide (0 ≤ H.desc_) && !decide (H.desc_ = (k : Int))) by unfold wayH; rw [hA.out])
            have hqs := hBw.out.size
            have lt1 : w.heap.size < wr.heap.size := BPq.out.1.1
            have ltb : bb < wr.heap.size := by omega
            have lt2 : b2 < wr.heap.size := by omega
            have lt3 : b3 < wr.heap.size := by omega
            have x0 := Ext.cell lt1 p0
            have x1 := Ext.cell lt1 p1
            have x2 := Ext.cell ltb e2q
            have x3 := Ext.cell lt2 ((hBw.out.cell (p := ⟨b2, off2 + j * 5, none⟩) hb2).trans c0)
            have x4 := Ext.cell lt3 ((hBw.out.cell (p := ⟨b3, off3 + o * 3, none⟩) hb3).trans d0)
            have x5 := Ext.cell lt3 ((hBw.out.cell (p := ⟨b3, off3 + o * 3 + 1, none⟩) hb3).trans d1)
            have x6 := Ext.cell lt3 ((hBw.out.cell (p := ⟨b3, off3 + o * 3 + 2, none⟩) hb3).trans d2)
            have hoi : (o : Int) < (hs.length : Int) := by omega
            have ho0 : (0 : Int) ≤ (o : Int) := by omega
            have hji : (j : Int) < (ES.length : Int) := by omega
            have hj0 : (0 : Int) ≤ (j : Int) := by omega
            clear c0 d0 d1 d2 hcell3 HC HE
            have mk1 : ∀ (P : Program) (o : Oper) (a : Act) (w : World) (v : Value), Oper.plainAt P o a w v = Oper.plainUpon w v ((execOp a.eval o).run P w) := fun _ _ _ _ _ => rfl; have mk2 : ∀ (w w' : World) (v u : Value), Oper.plainUpon w v (.ok (.value u) w') = (w' = w ∧ u = v) := fun _ _ _ _ => rfl
            go_upto_region 11 with fail
            refine Go.wp_region_rel [Rel.none, Rel.none, Rel.none, Rel.none, Rel.none, Rel.none, Rel.none, Rel.none, Rel.none, Rel.none, Rel.none, Rel.none, Rel.none, Rel.none, Rel.box wr.heap.size 3, Rel.wrote] [[], [], [], [], [], [], [], [], [], [], [], [], [], [], [], [14]] [.plain, .plain, .plain, .plain, .plain, .plain, .plain, .plain, .plain, .plain, .plain, .plain, .plain, .plain, .make, .write 14] (by kernel_rfl) (by kernel_rfl) (by kernel_rfl) (by kernel_rfl) (by kernel_rfl) ?_
            (refine Go.wpR_plain (Go.clsExt _) rfl rfl (fun K hK => ?_); go_simp; refine hK _ ?_; clear hK K)
            (refine Go.wpR_plain (Go.clsExt _) rfl rfl (fun K hK => ?_); go_simp; refine hK _ ?_; clear hK K)
            (refine Go.wpR_plain (Go.clsExt _) rfl rfl (fun K hK => ?_); go_simp; refine hK _ ?_; clear hK K)
            (refine Go.wpR_plain (Go.clsExt _) rfl rfl (fun K hK => ?_); go_simp; refine hK _ ?_; clear hK K)
            (refine Go.wpR_plain (Go.clsExt _) rfl rfl (fun K hK => ?_); go_simp; refine hK _ ?_; clear hK K)
            (refine Go.wpR_plain (Go.clsExt _) rfl rfl (fun K hK => ?_); go_simp; refine hK _ ?_; clear hK K)
            (refine Go.wpR_plain (Go.clsExt _) rfl rfl (fun K hK => ?_); go_simp; refine hK _ ?_; clear hK K)
            (refine Go.wpR_plain (Go.clsExt _) rfl rfl (fun K hK => ?_); go_simp; refine hK _ ?_; clear hK K)
            (refine Go.wpR_plain (Go.clsExt _) rfl rfl (fun K hK => ?_); go_simp; refine hK _ ?_; clear hK K)
            (refine Go.wpR_plain (Go.clsExt _) rfl rfl (fun K hK => ?_); go_simp; refine hK _ ?_; clear hK K)
            (refine Go.wpR_plain (Go.clsExt _) rfl rfl (fun K hK => ?_); go_simp; refine hK _ ?_; clear hK K)
            (refine Go.wpR_plain (Go.clsExt _) rfl rfl (fun K hK => ?_); go_simp; refine hK _ ?_; clear hK K)
            (refine Go.wpR_plain (Go.clsExt _) rfl rfl (fun K hK => ?_); go_simp; refine hK _ ?_; clear hK K)
            (refine Go.wpR_plain (Go.clsExt _) rfl rfl (fun K hK => ?_); go_simp; refine hK _ ?_; clear hK K)
            refine Go.wpR_box (Go.clsExt _) 3 #[.int .i64 0, .int .i64 0, .int .i64 0] 91 rfl rfl rfl rfl rfl (fun w => by go_simp) (fun lo => ?_)
            refine Go.wpR_store (Go.clsExt _) 14 3 lo _ (.agg #[.int .i64 H.value_, .int .i64 H.version_, .int .i64 H.desc_]) [.int .i64 H.value_, .int .i64 H.version_, .int .i64 H.desc_] rfl rfl rfl (by decide) rfl (by first | rfl | (simp [Go.Oper.stored]; go_simp)) (fun w h => Go.wrote_r h) (fun w cs0 hn hB => ⟨_, (by obtain ⟨z0, z1, z2, kz0, kz1, kz2, fz0, fz1, fz2⟩ := box_any3 hn hB; go_simp), boxset3 hn hB _ _ _⟩) rfl ?_
            refine Go.wpR_nil ?_
            intro E hm
            have bx := (hm.one 15 _ _ _ rfl).1.2 _ rfl
            have hE := E.h
            obtain ⟨X, hX⟩ : ∃ X, X = E.w := ⟨_, rfl⟩
            rw [← hX] at bx hE ⊢
            have hBX := hid (hBq.trans (hE.mono hBq.size))
            have y2 : X.cell? ⟨lo, 2, none⟩ = some (.int .i64 H.desc_) := bx.1.2 2 (by simp)
            clear hX hm E x0 x1 x2 x3 x4 x5 x6 mk1 mk2 bx hE p0 p1 e2q
            by_cases hw1 : 0 ≤ H.desc_
            · by_cases hw2 : H.desc_ = (k : Int)
              · have hb2 : (H.desc_ != (k : Int)) = false := by simp [hw2]
                have hno := hid (wayAt_no (hs := hs) (d := (k : Int)) hlt (by rw [hWy.out, decide_eq_true hw2]; simp))
                clear hw2
                go_wp2
                go_roundw
                case rel => exact ⟨j+1, -1, by go_num, rfl, by omega, hid (.inl ⟨rfl, by rw [← hno.out]; exact hwa.out⟩), hBX.out⟩
                case measure => simp [intOf]; omega
              · have hb2 : (H.desc_ != (k : Int)) = true := by simp [hw2]
                have hyes := hid (wayAt_yes (hs := hs) (d := (k : Int)) hlt (by rw [hWy.out, decide_eq_false hw2, decide_eq_true hw1]; rfl))
                have HW1 := hid hw1
                clear hw2
                go_wp2
                go_roundw
                case rel => exact ⟨j+1, H.desc_, by go_num, rfl, by omega, hid (.inr ⟨HW1.out, by rw [← hwa.out, hyes.out, hA.out]⟩), hBX.out⟩
                case measure => simp [intOf]; omega
            · have hno := hid (wayAt_no (hs := hs) (d := (k : Int)) hlt (by rw [hWy.out, decide_eq_false hw1]; rfl))
              go_wp2
              go_roundw
              case rel => exact ⟨j+1, -1, by go_num, rfl, by omega, hid (.inl ⟨rfl, by rw [← hno.out]; exact hwa.out⟩), hBX.out⟩
              case measure => simp [intOf]; omega
          · have hfin := hid (show nx = wayOf hs ds k by
              rw [hwo.out]
              rcases HX.out with ⟨h, h9⟩ | ⟨_, h⟩
              · have hjl : ¬ j < ES.length := fun h8 => hgo ⟨h8, by omega⟩
                rw [h, ← h9, wayAt_end hjl]
              · exact h)
            have HWn := hid (show WayAt hs ds fr nx (way ++ [(k : Int)]) by rw [hfin.out]; exact HWs.out)
            have O5 := hid (owns_below O4.out hBq)
            have hqs := hBq.size
            have hlen5 := hid (show (way ++ [(k : Int)]).length = way.length + 1 by simp)
            have hj0 : (0 : Int) ≤ (j : Int) := by omega
            have case2 : Hid ((¬ (j : Int) < (ES.length : Int)) ∨ ((j : Int) < (ES.length : Int) ∧ ¬ nx < 0)) := by
              by_cases h : j < ES.length
              · exact hid (.inr ⟨by omega, fun h8 => hgo ⟨h, h8⟩⟩)
              · exact hid (.inl (by omega))
            clear hgo
            rcases case2.out with hc1 | ⟨hc1, hc2⟩
            · go_wp2
              go_roundw
              case rel => exact ⟨nx, way ++ [(k : Int)], _, _, _, rfl, rfl, by rw [hlen5.out, hym.out], HWn, hBw.out, by omega, BPq, O5⟩
              case measure => simp [sliceLen]; have := hym.out; omega
            · go_wp2
              go_roundw
              case rel => exact ⟨nx, way ++ [(k : Int)], _, _, _, rfl, rfl, by rw [hlen5.out, hym.out], HWn, hBw.out, by omega, BPq, O5⟩
              case measure => simp [sliceLen]; have := hym.out; omega
    · have Hn := hid (HW.out.done HSO.out (fun h => hd0 h.1))
      go_wp2
      go_ret
      exact ⟨ret_int (by rw [hu2.out, Hn.out]), hB⟩
end Go.Proofs.Ytambpjjfndnadaa
