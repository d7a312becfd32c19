/- A slice of bytes that is read; the laws' own big and at. -/
import Derived.Test.YtjcoakgdhiiiaaaBx
import Derived.Test.YtjcoakgdhiiiaaaS0
namespace Go.Own
set_option maxRecDepth 100000
open Go.RowKit Go.Proofs Go.Own
open Go
set_option linter.unusedVariables false
set_option linter.unusedSimpArgs false
def encY (x : Int) : List Value := [.int .u8 x]
def Bytes (w : World) (v : Value) (xs : List Int) : Prop := Flat w v xs.length 1 (xs.flatMap encY)
def BytesIn (xs : List Int) : Prop := ∀ x ∈ xs, 0 ≤ x ∧ x ≤ 255
theorem Bytes.below {w w' : World} {v : Value} {xs : List Int} (h : Bytes w v xs) (hb : Below w.heap.size w w') : Bytes w' v xs := Flat.below h hb
theorem Bytes.open {w : World} {v : Value} {xs : List Int} (h : Bytes w v xs) : ∃ a cap, v = .slice a xs.length cap ∧ xs.length ≤ cap ∧ cap ≤ 9223372036854775807 ∧
    ∀ k, (h : k < xs.length) → ∃ b off, a = some ⟨b, off, none⟩ ∧ b < w.heap.size ∧ w.cell? ⟨b, off + k, none⟩ = some (.int .u8 xs[k]) := by
  obtain ⟨a, cap, e, h1, h2, h3⟩ := flat_elem (f := encY) (sz := 1) (fun _ => rfl) h
  refine ⟨a, cap, e, h1, h2, fun k hk => ?_⟩
  obtain ⟨b, off, ha, hs, hc⟩ := h3 k hk
  have := hc 0 (by omega)
  rw [Nat.mul_one, Nat.add_zero] at this
  exact ⟨b, off, ha, hs, this⟩
end Go.Own
namespace Go.Proofs.Ytjcoakgdhiiiaaa
open Go.RowKit Go.Proofs Go.Own
open Go
set_option linter.unusedVariables false
set_option linter.unusedSimpArgs false
theorem law_big (v : Value) (xs : List Int) (w : World) (h : Bytes w v xs) :
    Calls Try.prog 9 #[v] w fun e w' => e = .returned (.bool (decide (1048576 < (xs.length : Int)))) ∧ w = w' := by
  obtain ⟨a, cap, rfl, hl, hm, _⟩ := h.open
  go_enter Try.func9, Try.ntmps9
  go_wp2
  go_ret
  exact ⟨rfl, rfl⟩
theorem law_at (v : Value) (xs : List Int) (i : Nat) (w : World) (h : Bytes w v xs) (hin : BytesIn xs) (hi : i ≤ 1000) (hx : xs.length ≤ 1048576) :
    Calls Try.prog 15 #[v, .int .i64 (i : Int)] w fun e w' => ∃ x : Nat, x ≤ 255 ∧ e = .returned (.int .i64 (x : Int)) ∧ w = w' := by
  obtain ⟨a, cap, rfl, hl, hm, ho⟩ := h.open
  by_cases hlt : i < xs.length
  · obtain ⟨b, off, rfl, hb, hc⟩ := ho i hlt
    obtain ⟨x, hx⟩ : ∃ x, Hid (xs[i] = x) := ⟨_, hid rfl⟩
    have hr := hin xs[i] (List.getElem_mem hlt)
    rw [hx.out] at hc hr
    obtain ⟨k, rfl⟩ : ∃ k : Nat, x = k := ⟨x.toNat, by omega⟩
    have hw : IntKind.i64.wrap (k : Int) = k := by rw [IntKind.wrap_i64]; omega
    have hlt' : (i : Int) < xs.length := by omega
    clear ho
    go_enter Try.func15, Try.ntmps15
    go_wp2
    go_ret
    exact ⟨k, by omega, rfl, rfl⟩
  · have hlt' : ¬ (i : Int) < xs.length := by omega
    obtain ⟨m, hm⟩ : ∃ m : Nat, Hid (xs.length = m) := ⟨_, hid rfl⟩
    have hw1 : IntKind.i64.wrap ((i : Int) * 7) = (i : Int) * 7 := by rw [IntKind.wrap_i64]; omega
    have hw2 : IntKind.i64.wrap ((i : Int) * 7 + xs.length) = (i : Int) * 7 + xs.length := by rw [IntKind.wrap_i64]; omega
    clear ho
    go_enter Try.func15, Try.ntmps15
    go_wp2
    go_ret
    exact ⟨(i * 7 + xs.length) % 256, by omega, ret_int (by omega), rfl⟩
theorem law_at0 (v : Value) (xs : List Int) (w : World) (h : Bytes w v xs) (hin : BytesIn xs) (hx : xs.length ≤ 1048576) :
    Calls Try.prog 15 #[v, .int .i64 0] w fun e w' => ∃ x : Nat, x ≤ 255 ∧ e = .returned (.int .i64 (x : Int)) ∧ w = w' := law_at v xs 0 w h hin (by omega) hx
theorem law_at1 (v : Value) (xs : List Int) (w : World) (h : Bytes w v xs) (hin : BytesIn xs) (hx : xs.length ≤ 1048576) :
    Calls Try.prog 15 #[v, .int .i64 1] w fun e w' => ∃ x : Nat, x ≤ 255 ∧ e = .returned (.int .i64 (x : Int)) ∧ w = w' := law_at v xs 1 w h hin (by omega) hx
/-- What the laws' own at answers. -/
def atF (xs : List Int) (i : Nat) : Nat := if h : i < xs.length then (xs[i]'h).toNat else (i * 7 + xs.length) % 256
theorem law_atF (v : Value) (xs : List Int) (i : Nat) (w : World) (h : Bytes w v xs) (hin : BytesIn xs) (hi : i ≤ 1000) (hx : xs.length ≤ 1048576) :
    Calls Try.prog 15 #[v, .int .i64 (i : Int)] w fun e w' => e = .returned (.int .i64 (atF xs i : Nat)) ∧ w = w' := by
  obtain ⟨a, cap, rfl, hl, hm, ho⟩ := h.open
  by_cases hlt : i < xs.length
  · obtain ⟨b, off, rfl, hb, hc⟩ := ho i hlt
    obtain ⟨x, hx⟩ : ∃ x, Hid (xs[i] = x) := ⟨_, hid rfl⟩
    have hr := hin xs[i] (List.getElem_mem hlt)
    rw [hx.out] at hc hr
    obtain ⟨k, rfl⟩ : ∃ k : Nat, x = k := ⟨x.toNat, by omega⟩
    have hw : IntKind.i64.wrap (k : Int) = k := by rw [IntKind.wrap_i64]; omega
    have hlt' : (i : Int) < xs.length := by omega
    have hat := hid (show atF xs i = k by unfold atF; rw [dif_pos hlt, hx.out]; rfl)
    clear ho
    go_enter Try.func15, Try.ntmps15
    go_wp2
    go_ret
    exact ⟨ret_int (by rw [hat.out]), rfl⟩
  · have hlt' : ¬ (i : Int) < xs.length := by omega
    obtain ⟨m, hm⟩ : ∃ m : Nat, Hid (xs.length = m) := ⟨_, hid rfl⟩
    have hw1 : IntKind.i64.wrap ((i : Int) * 7) = (i : Int) * 7 := by rw [IntKind.wrap_i64]; omega
    have hw2 : IntKind.i64.wrap ((i : Int) * 7 + xs.length) = (i : Int) * 7 + xs.length := by rw [IntKind.wrap_i64]; omega
    have hat := hid (show atF xs i = (i * 7 + xs.length) % 256 by unfold atF; rw [dif_neg hlt])
    clear ho
    go_enter Try.func15, Try.ntmps15
    go_wp2
    go_ret
    exact ⟨ret_int (by rw [hat.out]; omega), rfl⟩
theorem law_atF0 (v : Value) (xs : List Int) (w : World) (h : Bytes w v xs) (hin : BytesIn xs) (hx : xs.length ≤ 1048576) :
    Calls Try.prog 15 #[v, .int .i64 0] w fun e w' => e = .returned (.int .i64 (atF xs 0 : Nat)) ∧ w = w' := law_atF v xs 0 w h hin (by omega) hx
theorem law_atF1 (v : Value) (xs : List Int) (w : World) (h : Bytes w v xs) (hin : BytesIn xs) (hx : xs.length ≤ 1048576) :
    Calls Try.prog 15 #[v, .int .i64 1] w fun e w' => e = .returned (.int .i64 (atF xs 1 : Nat)) ∧ w = w' := law_atF v xs 1 w h hin (by omega) hx
end Go.Proofs.Ytjcoakgdhiiiaaa
