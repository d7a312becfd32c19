/- Chapter 9: a program's text (no walk). -/
import Derived.Test.YtikiaffgjpddeaaDoorF9
import Derived.Lib.ItoaNum
namespace Go.Proofs.YtikiaffgjpddeaaDoor
set_option maxRecDepth 100000
open Go.RowKit Go.Proofs Go.Own
def BA (l : List UInt8) : ByteArray := ⟨l.toArray⟩
theorem BA_size (l : List UInt8) : (BA l).size = l.length := rfl
theorem BA_data (l : List UInt8) : (BA l).data.toList = l := rfl
theorem BA_eta (s : ByteArray) : BA s.data.toList = s := rfl
theorem BA_app (a b : List UInt8) : BA a ++ BA b = BA (a ++ b) := by
  apply ByteArray.ext; simp [BA]
theorem BA_inj {a b : List UInt8} (h : BA a = BA b) : a = b := by
  have := congrArg (fun s : ByteArray => s.data.toList) h
  simpa [BA] using this
/-- The digit of a number below 10. -/
def dgt (n : Nat) : UInt8 := UInt8.ofNat (48 + n)
theorem dgt_toNat {n : Nat} (h : n < 10) : (dgt n).toNat = 48 + n := by unfold dgt; rw [UInt8.toNat_ofNat']; omega
theorem dec_small {n : Nat} (h : n < 10) : Lib.decDigits n = [dgt n] := by rw [Lib.decDigits, dif_pos h]; rfl
theorem dec_step {n : Nat} (h : ¬ n < 10) : Lib.decDigits n = Lib.decDigits (n / 10) ++ [dgt (n % 10)] := by rw [Lib.decDigits, dif_neg h]; rfl
/-- The number that digits tell behind one that stands ahead of them. -/
def valD (acc : Nat) (l : List UInt8) : Nat := l.foldl (fun a c => 10 * a + (c.toNat - 48)) acc
theorem valD_snoc (l : List UInt8) (c : UInt8) (acc : Nat) : valD acc (l ++ [c]) = 10 * valD acc l + (c.toNat - 48) := by simp [valD, List.foldl_append]
theorem valD_dec (n : Nat) : valD 0 (Lib.decDigits n) = n := by
  induction n using Nat.strongRecOn with
  | _ n ih =>
    by_cases h : n < 10
    · rw [dec_small h]; simp [valD, dgt_toNat h]
    · rw [dec_step h, valD_snoc, ih (n / 10) (by omega), dgt_toNat (by omega)]; omega
theorem valD_lt' : ∀ (l : List UInt8) (acc : Nat), (∀ c ∈ l, 48 ≤ c.toNat ∧ c.toNat ≤ 57) → valD acc l < (acc + 1) * 10 ^ l.length
  | [], acc, _ => by simp [valD]
  | c :: r, acc, h => by
    have h1 := valD_lt' r (10 * acc + (c.toNat - 48)) (fun d hd => h d (List.mem_cons_of_mem _ hd))
    have h2 := h c (by simp)
    have e : valD acc (c :: r) = valD (10 * acc + (c.toNat - 48)) r := rfl
    rw [e, List.length_cons, Nat.pow_succ]
    have h3 : (10 * acc + (c.toNat - 48) + 1) * 10 ^ r.length ≤ (10 * (acc + 1)) * 10 ^ r.length := Nat.mul_le_mul_right _ (by omega)
    have h4 : (10 * (acc + 1)) * 10 ^ r.length = (acc + 1) * (10 ^ r.length * 10) := by rw [Nat.mul_comm 10 (acc + 1), Nat.mul_assoc, Nat.mul_comm 10]
    omega
theorem valD_lt (l : List UInt8) (h : ∀ c ∈ l, 48 ≤ c.toNat ∧ c.toNat ≤ 57) : valD 0 l < 10 ^ l.length := by
  have := valD_lt' l 0 h; omega
theorem dec_digits (n : Nat) : ∀ c ∈ Lib.decDigits n, 48 ≤ c.toNat ∧ c.toNat ≤ 57 := by
  induction n using Nat.strongRecOn with
  | _ n ih =>
    by_cases h : n < 10
    · intro c hc
      rw [dec_small h, List.mem_singleton] at hc
      subst hc; rw [dgt_toNat h]; omega
    · intro c hc
      rw [dec_step h, List.mem_append, List.mem_singleton] at hc
      rcases hc with hc | rfl
      · exact ih (n / 10) (by omega) c hc
      · rw [dgt_toNat (by omega)]; omega
theorem dec_len : ∀ (d n : Nat), n < 10 ^ (d + 1) → (Lib.decDigits n).length ≤ d + 1
  | 0, n, h => by rw [dec_small (by simpa using h)]; simp
  | d + 1, n, h => by
    by_cases h10 : n < 10
    · rw [dec_small h10]; simp
    · have h1 := dec_len d (n / 10) (by rw [Nat.pow_succ] at h; omega)
      rw [dec_step h10, List.length_append, List.length_singleton]; omega
theorem dec_pos (n : Nat) : 1 ≤ (Lib.decDigits n).length := by
  by_cases h : n < 10
  · rw [dec_small h]; simp
  · rw [dec_step h]; simp
theorem dec_head (n : Nat) (hn : 1 ≤ n) : ∃ c r, Lib.decDigits n = c :: r ∧ 49 ≤ c.toNat ∧ c.toNat ≤ 57 := by
  induction n using Nat.strongRecOn with
  | _ n ih =>
    by_cases h : n < 10
    · exact ⟨dgt n, [], dec_small h, by rw [dgt_toNat h]; omega, by rw [dgt_toNat h]; omega⟩
    · obtain ⟨c, r, e, h1, h2⟩ := ih (n / 10) (by omega) (by omega)
      exact ⟨c, r ++ [dgt (n % 10)], by rw [dec_step h, e]; rfl, h1, h2⟩
theorem itoa_pos' {x : Int} (h : 0 ≤ x) : Lib.itoa x = Lib.decDigits x.toNat := by unfold Lib.itoa; rw [if_neg (by omega)]
theorem itoa_neg' {x : Int} (h : x < 0) : Lib.itoa x = 45 :: Lib.decDigits (-x).toNat := by unfold Lib.itoa; rw [if_pos h, show x.natAbs = (-x).toNat by omega]
theorem itoa_zero : Lib.itoa 0 = [48] := by rw [itoa_pos' (by omega)]; exact dec_small (by decide)
theorem itoa_chars (x : Int) : ∀ c ∈ Lib.itoa x, c.toNat = 45 ∨ (48 ≤ c.toNat ∧ c.toNat ≤ 57) := by
  intro c hc
  by_cases h : 0 ≤ x
  · rw [itoa_pos' h] at hc; exact .inr (dec_digits _ c hc)
  · rw [itoa_neg' (by omega)] at hc
    rcases List.mem_cons.1 hc with rfl | hc
    · exact .inl rfl
    · exact .inr (dec_digits _ c hc)
theorem itoa_no (x : Int) (m : UInt8) (hm : m.toNat < 45) : m ∉ Lib.itoa x := by
  intro h
  have := itoa_chars x m h
  omega
theorem itoa_ne (x : Int) : Lib.itoa x ≠ [] := by
  by_cases h : 0 ≤ x
  · rw [itoa_pos' h]; intro e; have := dec_pos x.toNat; rw [e] at this; simp at this
  · rw [itoa_neg' (by omega)]; simp
/-- What a number's text is, by its sign. -/
theorem itoa_form {x : Int} {l : List UInt8} (hr : -1000000000 ≤ x ∧ x ≤ 1000000000) (h : l = Lib.itoa x) :
    (x = 0 ∧ l = [48]) ∨ (∃ c r, l = c :: r ∧ 49 ≤ c.toNat ∧ (∀ d ∈ l, 48 ≤ d.toNat ∧ d.toNat ≤ 57) ∧ l.length ≤ 10 ∧ (valD 0 l : Int) = x ∧ x ≠ 0) ∨
    (∃ c r, l = 45 :: c :: r ∧ 49 ≤ c.toNat ∧ (∀ d ∈ c :: r, 48 ≤ d.toNat ∧ d.toNat ≤ 57) ∧ (c :: r).length ≤ 10 ∧ -(valD 0 (c :: r) : Int) = x) := by
  by_cases h0 : x = 0
  · left; subst h0; exact ⟨rfl, by rw [h, itoa_zero]⟩
  · right
    by_cases hp : 0 ≤ x
    · left
      obtain ⟨c, r, e, h1, h2⟩ := dec_head x.toNat (by omega)
      rw [itoa_pos' hp] at h
      exact ⟨c, r, by rw [h, e], h1, by rw [h]; exact dec_digits _, by rw [h]; exact dec_len 9 _ (by omega), by rw [h, valD_dec]; omega, h0⟩
    · right
      obtain ⟨c, r, e, h1, h2⟩ := dec_head (-x).toNat (by omega)
      rw [itoa_neg' (by omega), e] at h
      exact ⟨c, r, h, h1, by rw [← e]; exact dec_digits _, by rw [← e]; exact dec_len 9 _ (by omega), by rw [← e, valD_dec]; omega⟩
/-- What stands ahead of each mark, and behind the last one. -/
def addP (m : UInt8) (st : List (List UInt8) × List UInt8) (c : UInt8) : List (List UInt8) × List UInt8 := if c = m then (st.1 ++ [st.2], []) else (st.1, st.2 ++ [c])
def partsL (m : UInt8) (l : List UInt8) : List (List UInt8) × List UInt8 := l.foldl (addP m) ([], [])
theorem partsL_snoc (m : UInt8) (l : List UInt8) (c : UInt8) : partsL m (l ++ [c]) = addP m (partsL m l) c := by simp [partsL, List.foldl_append]
theorem foldP_no (m : UInt8) : ∀ (l : List UInt8) (st : List (List UInt8) × List UInt8), m ∉ l → l.foldl (addP m) st = (st.1, st.2 ++ l)
  | [], st, _ => by simp
  | c :: r, st, h => by
    have hc : c ≠ m := fun e => h (by subst e; simp)
    rw [List.foldl_cons, foldP_no m r _ (fun e => h (List.mem_cons_of_mem _ e))]
    unfold addP; rw [if_neg hc]; simp
theorem parts1 (m : UInt8) (a : List UInt8) (ha : m ∉ a) : partsL m a = ([], a) := by unfold partsL; rw [foldP_no m a _ ha]; simp
theorem parts2 (m : UInt8) (a b : List UInt8) (ha : m ∉ a) (hb : m ∉ b) : partsL m (a ++ m :: b) = ([a], b) := by
  unfold partsL; rw [List.foldl_append, foldP_no m a _ ha, List.foldl_cons, foldP_no m b _ hb]
  simp [addP]
theorem parts3 (m : UInt8) (a b c : List UInt8) (ha : m ∉ a) (hb : m ∉ b) (hc : m ∉ c) : partsL m (a ++ m :: (b ++ m :: c)) = ([a, b], c) := by
  unfold partsL; rw [List.foldl_append, foldP_no m a _ ha, List.foldl_cons, List.foldl_append, foldP_no m b _ hb, List.foldl_cons, foldP_no m c _ hc]
  simp [addP]
def wordsL (l : List UInt8) : List (List UInt8) := (partsL 32 l).1 ++ [(partsL 32 l).2]
/-- The names. -/
def nmL (k : Int) : List UInt8 :=
  if k = 1 then [114, 101, 97, 100] else if k = 2 then [119, 114, 105, 116, 101] else if k = 3 then [115, 101, 116] else if k = 4 then [97, 100, 100] else
  if k = 5 then [105, 102] else if k = 6 then [99, 111, 109, 109, 105, 116] else if k = 7 then [97, 98, 111, 114, 116] else if k = 8 then [103, 111] else []
theorem nmL_no (k : Int) : (32 : UInt8) ∉ nmL k := by
  unfold nmL
  repeat (split; · decide)
  decide
theorem nmL_len (k : Int) : (nmL k).length ≤ 6 := by
  unfold nmL
  repeat (split; · decide)
  decide
/-- The line of an instruction. -/
def lineL (i : Instr) : List UInt8 :=
  if i.op_ = 8 then nmL i.op_ ++ 32 :: Lib.itoa i.a_ else if i.op_ = 6 ∨ i.op_ = 7 then nmL i.op_ else nmL i.op_ ++ 32 :: (Lib.itoa i.a_ ++ 32 :: Lib.itoa i.b_)
def NumOk (s : List UInt8) (v : Int) : Prop := (s = [] → v = 0) ∧ ∀ x : Int, -1000000000 ≤ x ∧ x ≤ 1000000000 → s = Lib.itoa x → v = x
def OpOk (s : List UInt8) (v : Int) : Prop := ∀ k : Int, 1 ≤ k ∧ k ≤ 8 → nmL k = s → v = k
theorem instrOk_op {i : Instr} {n : Int} (h : instrOk i n = true) : 1 ≤ i.op_ ∧ i.op_ ≤ 8 := by
  unfold instrOk at h
  repeat (split at h; · omega)
  cases h
theorem instrOk_rng {i : Instr} {n : Int} (h : instrOk i n = true) (hn : n ≤ 1000000000) : (-1000000000 ≤ i.a_ ∧ i.a_ ≤ 1000000000) ∧ (-1000000000 ≤ i.b_ ∧ i.b_ ≤ 1000000000) := by
  unfold instrOk at h
  repeat (split at h; · (simp [inB, isVal] at h; omega))
  cases h
theorem instrOk_zero {i : Instr} {n : Int} (h : instrOk i n = true) (h6 : i.op_ = 6 ∨ i.op_ = 7) : i.a_ = 0 ∧ i.b_ = 0 := by
  unfold instrOk at h
  rcases h6 with h6 | h6 <;> simp [h6] at h <;> exact h
theorem instrOk_zero8 {i : Instr} {n : Int} (h : instrOk i n = true) (h8 : i.op_ = 8) : i.b_ = 0 := by
  unfold instrOk at h
  simp [h8] at h; exact h.2
/-- What words are found in an instruction's line. -/
theorem derive {j : Instr} {n k a b : Int} {l : List UInt8} (hn : n ≤ 1000000000) (hj : instrOk j n = true) (hl : lineL j = l)
    (ho : OpOk ((wordsL l).getD 0 []) k) (ha : NumOk ((wordsL l).getD 1 []) a) (hb : NumOk ((wordsL l).getD 2 []) b) : (⟨k, a, b⟩ : Instr) = j := by
  obtain ⟨op, ja, jb⟩ := j
  have hr := instrOk_rng hj hn
  have h18 := instrOk_op hj
  have hz := instrOk_zero hj
  have hz8 := instrOk_zero8 hj
  dsimp only at hr h18 hz hz8
  by_cases h8 : op = 8
  · have e : wordsL l = [nmL op, Lib.itoa ja] := by
      rw [← hl]; unfold lineL wordsL; simp only; rw [if_pos h8, parts2 32 _ _ (nmL_no _) (itoa_no _ _ (by decide))]; rfl
    rw [e] at ho ha hb
    obtain rfl := ho op h18 rfl
    obtain rfl := ha.2 ja hr.1 rfl
    obtain rfl := hb.1 rfl
    rw [hz8 h8]
  · by_cases h6 : op = 6 ∨ op = 7
    · have e : wordsL l = [nmL op] := by
        rw [← hl]; unfold lineL wordsL; simp only; rw [if_neg h8, if_pos h6, parts1 32 _ (nmL_no _)]; rfl
      rw [e] at ho ha hb
      obtain rfl := ho op h18 rfl
      obtain rfl := ha.1 rfl
      obtain rfl := hb.1 rfl
      obtain ⟨e1, e2⟩ := hz h6
      rw [e1, e2]
    · have e : wordsL l = [nmL op, Lib.itoa ja, Lib.itoa jb] := by
        rw [← hl]; unfold lineL wordsL; simp only; rw [if_neg h8, if_neg h6, parts3 32 _ _ _ (nmL_no _) (itoa_no _ _ (by decide)) (itoa_no _ _ (by decide))]; rfl
      rw [e] at ho ha hb
      obtain rfl := ho op h18 rfl
      obtain rfl := ha.2 ja hr.1 rfl
      obtain rfl := hb.2 jb hr.2 rfl
      rfl
open Classical in
/-- The instruction whose line it is. -/
noncomputable def readI (l : List UInt8) (n : Int) : Option Instr := if h : ∃ j : Instr, instrOk j n = true ∧ lineL j = l then some h.choose else none
theorem readI_of {n k a b : Int} {l : List UInt8} (hn : n ≤ 1000000000)
    (ho : OpOk ((wordsL l).getD 0 []) k) (ha : NumOk ((wordsL l).getD 1 []) a) (hb : NumOk ((wordsL l).getD 2 []) b) :
    readI l n = if instrOk ⟨k, a, b⟩ n = true ∧ lineL ⟨k, a, b⟩ = l then some ⟨k, a, b⟩ else none := by
  unfold readI
  by_cases h : ∃ j : Instr, instrOk j n = true ∧ lineL j = l
  · rw [dif_pos h]
    have h1 := h.choose_spec
    have e := derive hn h1.1 h1.2 ho ha hb
    rw [e, if_pos h1]
  · rw [dif_neg h, if_neg (fun h2 => h ⟨_, h2⟩)]
theorem lineL_len {i : Instr} {n : Int} (h : instrOk i n = true) (hn : n ≤ 1000000000) : (lineL i).length ≤ 30 := by
  have hr := instrOk_rng h hn
  have h6 := nmL_len i.op_
  have it : ∀ x : Int, -1000000000 ≤ x ∧ x ≤ 1000000000 → (Lib.itoa x).length ≤ 11 := by
    intro x hx
    by_cases h0 : 0 ≤ x
    · rw [itoa_pos' h0]; have := dec_len 9 x.toNat (by omega); omega
    · rw [itoa_neg' (by omega), List.length_cons]; have := dec_len 9 (-x).toNat (by omega); omega
  have ha := it _ hr.1
  have hb := it _ hr.2
  unfold lineL
  split
  · simp; omega
  · split
    · omega
    · simp; omega
/-- A program's text. -/
def textL (xs : List Instr) : List UInt8 := xs.flatMap fun i => lineL i ++ [10]
def textOf (xs : List Instr) : ByteArray := if progOk xs = true then BA (textL xs) else BA []
theorem textL_take {xs : List Instr} {k : Nat} (h : k < xs.length) : textL (xs.take (k+1)) = textL (xs.take k) ++ (lineL xs[k] ++ [10]) := by
  unfold textL
  rw [List.take_succ_eq_append_getElem h, List.flatMap_append]
  simp
theorem textL_len (xs : List Instr) (h : progOk xs = true) : ∀ k, k ≤ xs.length → (textL (xs.take k)).length ≤ 31 * k
  | 0, _ => by simp [textL]
  | k + 1, hk => by
    have ih := textL_len xs h k (by omega)
    have h1 := lineL_len (progOk_get h k (by omega)) (by have := progOk_len h; omega)
    rw [textL_take (by omega)]
    simp only [List.length_append, List.length_singleton]
    omega
/-- What is read of lines, some being read. -/
noncomputable def readFrom (n : Int) (rest : List UInt8) : List (List UInt8) → Nat → List Instr → List Instr × Int × Bool
  | [], k, acc => if rest = [] then (acc, -1, true) else ([], (k : Int), false)
  | l :: ls, k, acc => if k = 30 then ([], (k : Int), false) else match readI l n with
    | none => ([], (k : Int), false)
    | some i => readFrom n rest ls (k + 1) (acc ++ [i])
noncomputable def readC (s : List UInt8) : List Instr × Int × Bool :=
  if 900 < s.length then ([], 0, false) else
  readFrom (((partsL 10 s).1.length : Int) + if (partsL 10 s).2 = [] then 0 else 1) (partsL 10 s).2 (partsL 10 s).1 0 []
end Go.Proofs.YtikiaffgjpddeaaDoor
