/- Plain facts on numbers that are written in decimal digits. No program stands in it. -/
import Derived.Test.YthicpakanhhipaaGreatDoorMem
import Derived.Lib.ParseIntB
import Derived.Lib.ItoaNum
import Derived.Lib.Repeat
namespace Go.Proofs.YthicpakanhhipaaGreatDoor
open Go Go.RowKit

/-- A digit; a number, written; what it is. -/
def isDig (c : UInt8) : Prop := 48 ≤ (c.toNat : Int) ∧ (c.toNat : Int) ≤ 57
def Written (s : ByteArray) : Prop := 0 < s.size ∧ (∀ h : 1 < s.size, (s[0].toNat : Int) ≠ 48) ∧ ∀ c ∈ s.data.toList, isDig c
def dval (l : List UInt8) : Int := l.foldl (fun a c => 10 * a + ((c.toNat : Int) - 48)) 0
theorem dval_snoc (l : List UInt8) (c : UInt8) : dval (l ++ [c]) = 10 * dval l + ((c.toNat : Int) - 48) := by simp [dval]
theorem take_snoc (s : ByteArray) (k : Nat) (h : k < s.size) : s.data.toList.take (k + 1) = s.data.toList.take k ++ [s[k]] := by
  rw [List.take_succ_eq_append_getElem (by simpa using h)]; rfl
theorem mem_at (s : ByteArray) (k : Nat) (h : k < s.size) : s[k] ∈ s.data.toList := by
  have : s.data.toList[k]'(by simpa using h) ∈ s.data.toList := List.getElem_mem _
  exact this
theorem dval_lt (s : ByteArray) (h : ∀ c ∈ s.data.toList, isDig c) : ∀ j, j ≤ s.size → 0 ≤ dval (s.data.toList.take j) ∧ dval (s.data.toList.take j) < 2 ^ (4 * j)
  | 0, _ => by simp [dval]
  | j + 1, hj => by
    have ih := dval_lt s h j (by omega)
    have h2 := h _ (mem_at s j (by omega))
    unfold isDig at h2
    rw [take_snoc s j (by omega), dval_snoc, show 4 * (j + 1) = 4 * j + 4 by omega, Int.pow_add]
    omega
theorem dig_wrap {c : UInt8} (h : isDig c) : IntKind.u32.wrap (IntKind.u8.wrap ((c.toNat : Int) - 48)) = (c.toNat : Int) - 48 := by
  unfold isDig at h
  rw [IntKind.wrap_u8, IntKind.wrap_u32]; omega
/-- A natural's decimal digits; of 0 none. -/
def decL (n : Nat) : List UInt8 := if h : n = 0 then [] else decL (n / 10) ++ [UInt8.ofNat (48 + n % 10)]
termination_by n
decreasing_by omega
theorem decL_zero : decL 0 = [] := by rw [decL]; simp
theorem decL_pos {n : Nat} (h : 0 < n) : decL n = decL (n / 10) ++ [UInt8.ofNat (48 + n % 10)] := by rw [decL, dif_neg (by omega)]
/-- A number, written. -/
def putL (n : Nat) : List UInt8 := if n = 0 then [48] else decL n
theorem dval_foldl (l : List UInt8) (a : Int) : l.foldl (fun a c => 10 * a + ((c.toNat : Int) - 48)) a = a * 10 ^ l.length + dval l := by
  unfold dval
  induction l generalizing a with
  | nil => simp
  | cons c l ih =>
    simp only [List.foldl_cons, List.length_cons]
    rw [ih, ih (10 * 0 + ((c.toNat : Int) - 48)), Int.pow_succ]
    generalize List.foldl _ 0 l = d
    generalize (10 : Int) ^ l.length = p
    generalize (c.toNat : Int) - 48 = k
    grind
theorem dval_append (a b : List UInt8) : dval (a ++ b) = dval a * 10 ^ b.length + dval b := by
  unfold dval
  rw [List.foldl_append]
  exact dval_foldl b _
theorem dval_bound (l : List UInt8) (h : ∀ c ∈ l, isDig c) : 0 ≤ dval l ∧ dval l < 10 ^ l.length := by
  induction l with
  | nil => simp [dval]
  | cons c l ih =>
    obtain ⟨h1, h2⟩ := ih (fun x hx => h x (by simp [hx]))
    have hc := h c (by simp)
    unfold isDig at hc
    have e : dval (c :: l) = ((c.toNat : Int) - 48) * 10 ^ l.length + dval l := by
      have := dval_append [c] l
      simpa [dval] using this
    have p := pow_pos' (show (0 : Int) < 10 by decide) l.length
    have m0 : 0 ≤ ((c.toNat : Int) - 48) * 10 ^ l.length := Int.mul_nonneg (by omega) (by omega)
    have m1 : ((c.toNat : Int) - 48) * 10 ^ l.length ≤ 9 * 10 ^ l.length := Int.mul_le_mul_of_nonneg_right (by omega) (by omega)
    rw [e, List.length_cons, Int.pow_succ]
    omega
theorem parseM_ok (l : List UInt8) (h : ∀ c ∈ l, isDig c) (acc : Nat) (hb : (acc : Int) * 10 ^ l.length + dval l ≤ 4294967295) : Lib.parseUintM 4294967295 acc l = .ok ((acc : Int) * 10 ^ l.length + dval l).toNat := by
  induction l generalizing acc with
  | nil => simp [Lib.parseUintM, dval]
  | cons c l ih =>
    have hc := h c (by simp)
    unfold isDig at hc
    have hl := dval_bound l (fun x hx => h x (by simp [hx]))
    have e : dval (c :: l) = ((c.toNat : Int) - 48) * 10 ^ l.length + dval l := by
      have := dval_append [c] l
      simpa [dval] using this
    have p := pow_pos' (show (0 : Int) < 10 by decide) l.length
    have ec : ((acc * 10 + (c.toNat - 48) : Nat) : Int) = acc * 10 + ((c.toNat : Int) - 48) := by omega
    have e2 : (acc : Int) * 10 ^ (c :: l).length + dval (c :: l) = ((acc * 10 + (c.toNat - 48) : Nat) : Int) * 10 ^ l.length + dval l := by
      rw [e, ec, List.length_cons, Int.pow_succ]; grind
    rw [e2] at hb ⊢
    have m : ((acc * 10 + (c.toNat - 48) : Nat) : Int) * 1 ≤ ((acc * 10 + (c.toNat - 48) : Nat) : Int) * 10 ^ l.length := Int.mul_le_mul_of_nonneg_left (by omega) (by omega)
    rw [Lib.parseUintM, if_pos (by omega), if_neg (by omega), if_neg (by omega)]
    exact ih (fun x hx => h x (by simp [hx])) _ hb
theorem parse_ok (l : List UInt8) (h : ∀ c ∈ l, isDig c) (h0 : l ≠ []) (h9 : l.length ≤ 9) : Lib.parseUintB 32 l = .ok (dval l).toNat := by
  have hb := dval_bound l h
  have hm : (10 : Int) ^ l.length ≤ 10 ^ 9 := pow_mono (by decide) h9
  have := parseM_ok l h 0 (by simp; omega)
  unfold Lib.parseUintB
  rw [if_neg h0]
  simpa using this

/-- The last k digits. -/
def padL : Nat → Nat → List UInt8
  | 0, _ => []
  | k + 1, l => padL k (l / 10) ++ [UInt8.ofNat (48 + l % 10)]
theorem padL_len (k l : Nat) : (padL k l).length = k := by
  induction k generalizing l with
  | zero => rfl
  | succ k ih => simp [padL, ih]
theorem decL_pad (k : Nat) {h l : Nat} (hh : 0 < h) (hl : l < 10 ^ k) : decL (l + 10 ^ k * h) = decL h ++ padL k l := by
  induction k generalizing l with
  | zero => obtain rfl : l = 0 := by simpa using hl
            simp [padL]
  | succ k ih =>
    have p : 0 < 10 ^ k := Nat.pow_pos (by decide)
    have e : 10 ^ (k + 1) * h = 10 * (10 ^ k * h) := by rw [Nat.pow_succ]; grind
    have hp : 0 < 10 ^ k * h := Nat.mul_pos p hh
    rw [decL_pos (by omega), e, show (l + 10 * (10 ^ k * h)) / 10 = l / 10 + 10 ^ k * h by omega, show (l + 10 * (10 ^ k * h)) % 10 = l % 10 by omega,
      ih (by rw [Nat.pow_succ] at hl; omega), padL, List.append_assoc]
theorem decDigits_putL (n : Nat) : Lib.decDigits n = putL n := by
  unfold putL
  split
  · rename_i h; subst h; rw [Lib.decDigits_one (by decide)]; rfl
  · rename_i h
    induction n using Nat.strongRecOn with
    | _ n ih =>
      rw [Lib.decDigits, decL_pos (by omega)]
      split
      · rename_i h10
        rw [show n / 10 = 0 by omega, decL_zero, Nat.mod_eq_of_lt h10]
        rfl
      · rw [ih (n / 10) (by omega) (by omega)]
theorem repeat_app (k : Nat) (c : UInt8) : Lib.repeatL [c] (k + 1) = Lib.repeatL [c] k ++ [c] := by
  induction k with
  | zero => rfl
  | succ k ih =>
    show [c] ++ Lib.repeatL [c] (k + 1) = ([c] ++ Lib.repeatL [c] k) ++ [c]
    rw [ih, List.append_assoc]
/-- Noughts ahead, up to k digits. -/
theorem padL_eq (k : Nat) {l : Nat} (hl : l < 10 ^ (k + 1)) : (Lib.decDigits l).length ≤ k + 1 ∧ padL (k + 1) l = Lib.repeatL [48] (k + 1 - (Lib.decDigits l).length) ++ Lib.decDigits l := by
  induction k generalizing l with
  | zero =>
    have : l < 10 := by simpa using hl
    rw [Lib.decDigits_one this]
    refine ⟨by simp, ?_⟩
    simp [padL, Lib.repeatL, Nat.mod_eq_of_lt this]
  | succ k ih =>
    rw [Nat.pow_succ] at hl
    obtain ⟨h1, h2⟩ := ih (l := l / 10) (by omega)
    rw [padL, h2]
    by_cases h10 : l < 10
    · rw [show l / 10 = 0 by omega, Lib.decDigits_one (show 0 < 10 by decide), Lib.decDigits_one h10]
      refine ⟨by simp, ?_⟩
      simp only [List.length_singleton, Nat.add_sub_cancel]
      rw [repeat_app, Nat.mod_eq_of_lt h10]
      rfl
    · have e : Lib.decDigits l = Lib.decDigits (l / 10) ++ [UInt8.ofNat (48 + l % 10)] := by rw [Lib.decDigits, dif_neg h10]
      rw [e, List.length_append, List.length_singleton]
      refine ⟨by omega, ?_⟩
      rw [show k + 1 + 1 - ((Lib.decDigits (l / 10)).length + 1) = k + 1 - (Lib.decDigits (l / 10)).length by omega, List.append_assoc]
/-- Big digits, the least first, the last not 0: written one behind the other. -/
theorem decL_big {D : List Int} {k : Nat} {d : Int} (hd : Dg 1000000000 D) (hk : D[k]? = some d) (hp : 0 < val 1000000000 (D.drop (k + 1))) :
    decL (val 1000000000 (D.drop k)).toNat = decL (val 1000000000 (D.drop (k + 1))).toNat ++ (Lib.repeatL [48] (9 - (Lib.decDigits d.toNat).length) ++ Lib.decDigits d.toNat) ∧ (Lib.decDigits d.toNat).length ≤ 9 := by
  have h := hd.get hk
  obtain ⟨h1, h2⟩ := padL_eq 8 (l := d.toNat) (by omega)
  have e : (val 1000000000 (D.drop k)).toNat = d.toNat + 10 ^ 9 * (val 1000000000 (D.drop (k + 1))).toNat := by
    rw [drop_of hk, val]; omega
  rw [e, decL_pad 9 (by omega) (by omega), h2]
  exact ⟨rfl, h1⟩
/-- What Put answers. -/
def PutB (w : World) (N : Int) (e : Ending) (w' : World) : Prop := ∃ s : ByteArray, e = .returned (.string s) ∧ s.data.toList = putL N.toNat ∧ Below w.heap.size w w'
/-- Big digits of a number, n so far; q is left. -/
structure BlkI (N q : Int) (n : Nat) (D : List Int) : Prop where
  dg : Dg 1000000000 D
  len : D.length = 456
  num : N = val 1000000000 (D.take n) + 1000000000 ^ n * q
  q0 : 0 ≤ q
  top : q = 0 → n = 0 ∨ ∃ d, D[n - 1]? = some d ∧ 0 < d
theorem BlkI.room {N q : Int} {n : Nat} {D : List Int} (h : BlkI N q n D) (hq : 0 < q) (hN : N < 1000000000 ^ 456) : n < 456 := by
  rcases Nat.lt_or_ge n 456 with hn | hn
  · exact hn
  · have p := pow_mono (show (0 : Int) < 1000000000 by decide) hn
    have h0 := val_nonneg (β := 1000000000) (by decide) (h.dg.take n)
    have p0 := pow_pos' (show (0 : Int) < 1000000000 by decide) n
    have := h.num
    have : (1000000000 : Int) ^ n * 1 ≤ 1000000000 ^ n * q := Int.mul_le_mul_of_nonneg_left (by omega) (by omega)
    omega
theorem BlkI.step {N q : Int} {n : Nat} {D : List Int} (h : BlkI N q n D) (hq : 0 < q) (hn : n < 456) : BlkI N (q / 1000000000) (n + 1) (D.set n (q % 1000000000)) := by
  have hs : (D.set n (q % 1000000000))[n]? = some (q % 1000000000) := List.getElem?_set_self (by rw [h.len]; exact hn)
  refine ⟨h.dg.set (by omega), by rw [List.length_set, h.len], ?_, by omega, fun h0 => .inr ⟨q % 1000000000, hs, by omega⟩⟩
  rw [take_succ_of hs, val_snoc, List.take_set_of_le (Nat.le_refl _), List.length_take, Nat.min_eq_left (by have := h.len; omega), h.num, Int.pow_succ]
  have := Int.mul_ediv_add_emod q 1000000000
  grind
theorem val_pos {β : Int} (hβ : 0 < β) {L : List Int} (h : Dg β L) {k : Nat} {d : Int} (hk : L[k]? = some d) (hd : 0 < d) : 0 < val β L := by
  have hl := lt_of_get hk
  have e : val β L = val β (L.take k) + β ^ k * val β (L.drop k) := by
    conv => lhs; rw [← List.take_append_drop k L]
    rw [val_append, List.length_take, Nat.min_eq_left (by omega)]
  rw [drop_of hk, val] at e
  have h0 := val_nonneg hβ (h.take k)
  have h1 := val_nonneg hβ (h.drop (k + 1))
  have h2 : 0 ≤ β * val β (L.drop (k + 1)) := Int.mul_nonneg (by omega) h1
  have h3 : 0 < β ^ k * (d + β * val β (L.drop (k + 1))) := Int.mul_pos (pow_pos' hβ k) (by omega)
  omega
theorem decL_ne {n : Nat} (h : 0 < n) : decL n ≠ [] := by rw [decL_pos h]; simp
/-- A text's bytes, as numbers. -/
def txt (l : List UInt8) : List Int := l.map fun b => (b.toNat : Int)
theorem decL_len (k : Nat) : ∀ n : Nat, n < 10 ^ k → (decL n).length ≤ k := by
  induction k with
  | zero => intro n h; obtain rfl : n = 0 := by simpa using h
            rw [decL_zero]; simp
  | succ k ih =>
    intro n h
    rcases Nat.eq_zero_or_pos n with rfl | h0
    · rw [decL_zero]; simp
    · rw [decL_pos h0, List.length_append, List.length_singleton]
      have := ih (n / 10) (by rw [Nat.pow_succ] at h; omega)
      omega
theorem nat_lt_ten {N : Int} (m : Nat) (h : N < (10 : Int) ^ m) : N.toNat < 10 ^ m := by
  have e : ((10 ^ m : Nat) : Int) = (10 : Int) ^ m := by simp
  rw [← e] at h
  have := Nat.pow_pos (n := m) (show 0 < 10 by decide)
  omega
theorem nine_ten (k m : Nat) (h : 9 * k = m) : (1000000000 : Int) ^ k = 10 ^ m := by
  rw [show (1000000000 : Int) = 10 ^ 9 from rfl, ← Int.pow_mul, h]
theorem putL_len_of {N : Int} (m : Nat) (h : N < (10 : Int) ^ m) : (putL N.toNat).length ≤ m + 1 := by
  unfold putL
  split
  · simp
  · exact Nat.le_succ_of_le (decL_len _ _ (nat_lt_ten m h))
theorem putL_len {N : Int} (h : N < 1000000000 ^ 456) : (putL N.toNat).length ≤ 100000 :=
  Nat.le_trans (putL_len_of 4104 (by rw [← nine_ten 456 4104 rfl]; exact h)) (by omega)
end Go.Proofs.YthicpakanhhipaaGreatDoor
