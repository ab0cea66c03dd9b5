/- Numbers that are written, there and back. No program stands in it. -/
import Derived.Test.YthicpakanhhipaaGreatDoorMathT
namespace Go.Proofs.YthicpakanhhipaaGreatDoor
open Go Go.RowKit

theorem digit_of {d : Nat} (h : d < 10) : (UInt8.ofNat (48 + d)).toNat = 48 + d := by
  rw [UInt8.toNat_ofNat']; omega
theorem ofNat_digit {c : UInt8} (h : isDig c) : UInt8.ofNat (48 + ((c.toNat : Int) - 48).toNat) = c := by
  unfold isDig at h
  rw [show 48 + ((c.toNat : Int) - 48).toNat = c.toNat by omega]
  exact UInt8.ofNat_toNat
theorem decL_dig (n : Nat) : ∀ c ∈ decL n, isDig c := by
  induction n using Nat.strongRecOn with
  | _ n ih =>
    intro c hc
    rcases Nat.eq_zero_or_pos n with rfl | h0
    · rw [decL_zero] at hc; cases hc
    · rw [decL_pos h0] at hc
      rcases List.mem_append.1 hc with h | h
      · exact ih _ (by omega) c h
      · rw [List.mem_singleton.1 h]
        unfold isDig
        rw [digit_of (by omega)]
        omega
theorem dval_decL (n : Nat) : dval (decL n) = n := by
  induction n using Nat.strongRecOn with
  | _ n ih =>
    rcases Nat.eq_zero_or_pos n with rfl | h0
    · rw [decL_zero]; rfl
    · rw [decL_pos h0, dval_snoc, ih _ (by omega), digit_of (by omega)]
      omega
theorem decL_head (n : Nat) (h0 : 0 < n) : ∃ c r, decL n = c :: r ∧ c.toNat ≠ 48 := by
  induction n using Nat.strongRecOn with
  | _ n ih =>
    rcases Nat.eq_zero_or_pos (n / 10) with h | h
    · refine ⟨UInt8.ofNat (48 + n % 10), [], ?_, ?_⟩
      · rw [decL_pos h0, h, decL_zero]; rfl
      · rw [digit_of (by omega)]; omega
    · obtain ⟨c, r, e, hc⟩ := ih (n / 10) (by omega) h
      exact ⟨c, r ++ [UInt8.ofNat (48 + n % 10)], by rw [decL_pos h0, e]; rfl, hc⟩
theorem putL_dig (n : Nat) : ∀ c ∈ putL n, isDig c := by
  unfold putL
  split
  · intro c hc; rw [List.mem_singleton.1 hc]; unfold isDig; decide
  · exact decL_dig n
theorem dval_putL (n : Nat) : dval (putL n) = n := by
  unfold putL
  split
  · rename_i h; subst h; rfl
  · exact dval_decL n
theorem putL_ne (n : Nat) : putL n ≠ [] := by
  unfold putL
  split
  · simp
  · rename_i h; exact decL_ne (by omega)
theorem size_toList (s : ByteArray) : s.size = s.data.toList.length := by simp
theorem get_zero (s : ByteArray) (h : 0 < s.size) {c : UInt8} {r : List UInt8} (e : s.data.toList = c :: r) : s[0] = c := by
  have h1 : s.data.toList[0]'(by rw [← size_toList]; exact h) = c := by simp [e]
  exact h1
theorem putL_written {s : ByteArray} {n : Nat} (h : s.data.toList = putL n) : Written s := by
  have hs := size_toList s
  refine ⟨?_, fun h1 => ?_, by rw [h]; exact putL_dig n⟩
  · rw [hs, h]
    exact List.length_pos_iff.2 (putL_ne n)
  · by_cases h0 : n = 0
    · subst h0
      rw [hs, h] at h1
      simp [putL] at h1
    · obtain ⟨c, r, e, hc⟩ := decL_head n (by omega)
      have e2 : s.data.toList = c :: r := by rw [h]; unfold putL; rw [if_neg h0, e]
      rw [get_zero s (by omega) e2]
      omega
theorem decL_back (k : Nat) : ∀ l : List UInt8, l.length = k → (∀ c ∈ l, isDig c) → (∃ c r, l = c :: r ∧ c.toNat ≠ 48) → 0 < dval l ∧ decL (dval l).toNat = l := by
  induction k with
  | zero => intro l hl _ h; obtain ⟨c, r, e, _⟩ := h; subst e; simp at hl
  | succ k ih =>
    intro l hl hd h
    obtain ⟨c, r, e, hc⟩ := h
    have hne : l ≠ [] := by rw [e]; simp
    obtain ⟨zs, z, rfl⟩ : ∃ zs z, l = zs ++ [z] := ⟨l.dropLast, l.getLast hne, (List.dropLast_concat_getLast hne).symm⟩
    have hz := hd z (by simp)
    have hzd := ofNat_digit hz
    unfold isDig at hz
    rw [dval_snoc]
    rcases zs with _ | ⟨y, ys⟩
    · simp at e
      have hzc : z.toNat ≠ 48 := by rw [e.1]; exact hc
      have h0 : dval [] = 0 := rfl
      rw [h0]
      refine ⟨by omega, ?_⟩
      rw [decL_pos (by omega), show (10 * 0 + ((z.toNat : Int) - 48)).toNat / 10 = 0 by omega, decL_zero, show (10 * 0 + ((z.toNat : Int) - 48)).toNat % 10 = ((z.toNat : Int) - 48).toNat by omega, hzd]
    · have hyc : y = c := by simp at e; exact e.1
      obtain ⟨i1, i2⟩ := ih (y :: ys) (by simpa using hl) (fun x hx => hd x (List.mem_append_left _ hx)) ⟨y, ys, rfl, by rw [hyc]; exact hc⟩
      refine ⟨by omega, ?_⟩
      rw [decL_pos (by omega), show (10 * dval (y :: ys) + ((z.toNat : Int) - 48)).toNat / 10 = (dval (y :: ys)).toNat by omega,
        show (10 * dval (y :: ys) + ((z.toNat : Int) - 48)).toNat % 10 = ((z.toNat : Int) - 48).toNat by omega, hzd, i2]
theorem putL_back {s : ByteArray} (h : Written s) : putL (dval s.data.toList).toNat = s.data.toList := by
  obtain ⟨h0, h1, h2⟩ := h
  have hs := size_toList s
  obtain ⟨c, r, e⟩ : ∃ c r, s.data.toList = c :: r := by
    cases hc : s.data.toList with
    | nil => have h3 : s.size = 0 := by rw [hs, hc]; rfl
             omega
    | cons c r => exact ⟨c, r, rfl⟩
  by_cases hc : c.toNat = 48
  · have hr : r = [] := by
      rcases r with _ | ⟨y, ys⟩
      · rfl
      · have := h1 (by rw [hs, e]; simp)
        rw [get_zero s h0 e] at this
        omega
    subst hr
    have hc' : c = 48 := UInt8.toNat_inj.1 hc
    subst hc'
    rw [e]
    rfl
  · obtain ⟨p, q⟩ := decL_back _ s.data.toList rfl h2 ⟨c, r, e, hc⟩
    unfold putL
    rw [if_neg (by omega)]
    exact q
end Go.Proofs.YthicpakanhhipaaGreatDoor
