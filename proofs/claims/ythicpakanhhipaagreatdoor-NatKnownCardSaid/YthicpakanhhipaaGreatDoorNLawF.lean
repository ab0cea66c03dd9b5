/- tallagelaw02: NatWords: it returns true, whatever the text, the power and the row are. -/
import Derived.Test.YthicpakanhhipaaGreatDoorNLawE
import Derived.Test.YthicpakanhhipaaGreatDoorNLawC
import Derived.Test.YthicpakanhhipaaGreatDoorNRefE
import Derived.Test.YthicpakanhhipaaGreatDoorNRefF
namespace Go.Proofs.YthicpakanhhipaaGreatDoor
open Go Go.RowKit

/-- The code and the number that a text answers. -/
noncomputable def txtC (s : ByteArray) : Int := open Classical in if Written s then (if s.size ≤ 4096 then 0 else 3) else 60
noncomputable def txtV (s : ByteArray) : Int := open Classical in if Written s then (if s.size ≤ 4096 then dval s.data.toList else 0) else 0
/-- The code and the number that a power answers. -/
def pwC (n : Int) : Int := if n < 0 then 2 else if n ≤ 4096 then 0 else 3
def pwV (b n : Int) : Int := if n < 0 then 0 else if n ≤ 4096 then b ^ n.toNat else 0

theorem pow_base {a b : Int} (h0 : 0 ≤ a) (h : a ≤ b) : ∀ n : Nat, a ^ n ≤ b ^ n
  | 0 => by simp
  | n + 1 => by
    rw [Int.pow_succ, Int.pow_succ]
    exact Int.mul_le_mul (pow_base h0 h n) h h0 (Int.pow_nonneg (by omega))
theorem txt_small {s : ByteArray} (hw : Written s) (h : s.size ≤ 4096) : dval s.data.toList < 2 ^ 16384 := by
  have h1 := dval_bound _ hw.2.2
  have h2 := pow_mono (show (0 : Int) < 10 by decide) (show s.data.toList.length ≤ 4096 by rw [← size_toList]; exact h)
  have h3 : (10 : Int) ^ 4096 ≤ 2 ^ 16384 := by
    have := pow_base (a := 10) (b := 2 ^ 4) (by decide) (by decide) 4096
    rw [← Int.pow_mul] at this
    exact this
  omega
theorem pw_small {b : Int} (hb : 0 ≤ b ∧ b < 4294967296) {k : Nat} (hk : k ≤ 4096) : b ^ k < 2 ^ 131073 := by
  have h1 := (pow_le_two hb k).2
  have h2 := pow_mono (show (0 : Int) < 2 by decide) (show 32 * k ≤ 131072 by omega)
  have h3 : (2 : Int) ^ 131073 = 2 ^ 131072 * 2 := Int.pow_succ _ _
  have h4 := pow_pos' (show (0 : Int) < 2 by decide) 131072
  omega
theorem limbs_of_bits {N : Int} {k : Nat} (h : N < 2 ^ (32 * k)) : N < 4294967296 ^ k := by rw [Int.pow_mul] at h; exact h
section
variable {w w' : World}
theorem txtS (s : ByteArray) (hs : s.size ≤ maxLen) : Calls Tryz.prog 20 #[.string s] w fun e w' => ∃ A n c, e = .returned (.tuple #[.slice A n c, .int .i64 (txtC s)]) ∧ RwS w' 512 (txtV s) A n c ∧ Below w.heap.size w w' := by
  refine (Parse_any s hs).mono ?_
  rintro e w' h
  unfold txtC txtV
  rcases h with ⟨h, rfl, b⟩ | ⟨h, hl, rfl, b⟩ | ⟨h, hl, ys, A, n, c, hr, rfl, ho, b⟩
  · rw [if_neg h, if_neg h]; exact ⟨none, 0, 0, rfl, RwS.none_ _, b⟩
  · rw [if_pos h, if_pos h, if_neg (by omega), if_neg (by omega)]; exact ⟨none, 0, 0, rfl, RwS.none_ _, b⟩
  · rw [if_pos h, if_pos h, if_pos hl, if_pos hl]
    exact ⟨A, n, c, rfl, .row hr ho.sl (Nat.le_refl _) (limbs_of_bits (txt_small h hl)), b⟩
theorem txtR (s : ByteArray) (hs : s.size ≤ maxLen) : Calls Tryz.prog 21 #[.string s] w fun e w' => ∃ A n c, e = .returned (.tuple #[.slice A n c, .int .i64 (txtC s)]) ∧ RwB w' 16384 (txtV s) A n c ∧ Below w.heap.size w w' := by
  refine (bparse_any s hs).mono ?_
  rintro e w' h
  unfold txtC txtV
  rcases h with ⟨h, rfl, b⟩ | ⟨h, hl, rfl, b⟩ | ⟨h, hl, ys, A, n, c, rfl, hr, hs, b⟩
  · rw [if_neg h, if_neg h]; exact ⟨none, 0, 0, rfl, RwB.none_ _, b⟩
  · rw [if_pos h, if_pos h, if_neg (by omega), if_neg (by omega)]; exact ⟨none, 0, 0, rfl, RwB.none_ _, b⟩
  · rw [if_pos h, if_pos h, if_pos hl, if_pos hl]
    exact ⟨A, n, c, rfl, ⟨ys, hr, hs, by rw [← hs.len]; exact hr.len_le (by decide) (txt_small h hl)⟩, b⟩
theorem pwS {b n : Int} (hb : 0 ≤ b ∧ b < 4294967296) (hn : -9223372036854775808 ≤ n ∧ n ≤ 9223372036854775807) : Calls Tryz.prog 22 #[.int .u32 b, .int .i64 n] w fun e w' =>
    ∃ A n' c, e = .returned (.tuple #[.slice A n' c, .int .i64 (pwC n)]) ∧ RwS w' 4097 (pwV b n) A n' c ∧ Below w.heap.size w w' := by
  unfold pwC pwV
  by_cases h : n < 0
  · rw [if_pos h, if_pos h]
    refine (Pow_none ⟨h, hn.1⟩).mono ?_
    rintro e w' ⟨rfl, rfl⟩
    exact ⟨none, 0, 0, rfl, RwS.none_ _, Below.refl _ _⟩
  · rw [if_neg h, if_neg h]
    by_cases h2 : n ≤ 4096
    · rw [if_pos h2, if_pos h2]
      obtain ⟨k, rfl⟩ : ∃ k : Nat, n = (k : Int) := ⟨n.toNat, by omega⟩
      rw [Int.toNat_natCast]
      refine (powS (k := k) hb (by omega)).mono ?_
      rintro e w' ⟨A, n, c, rfl, ⟨ys, r, s, l⟩, hb⟩
      exact ⟨A, n, c, rfl, ⟨ys, r, s, by omega⟩, hb⟩
    · rw [if_neg h2, if_neg h2]
      refine (Pow_long ⟨by omega, hn.2⟩).mono ?_
      rintro e w' ⟨rfl, rfl⟩
      exact ⟨none, 0, 0, rfl, RwS.none_ _, Below.refl _ _⟩
theorem pwR {b n : Int} (hb : 0 ≤ b ∧ b < 4294967296) : Calls Tryz.prog 23 #[.int .u32 b, .int .i64 n] w fun e w' =>
    ∃ A n' c, e = .returned (.tuple #[.slice A n' c, .int .i64 (pwC n)]) ∧ RwB w' 131073 (pwV b n) A n' c ∧ Below w.heap.size w w' := by
  unfold pwC pwV
  by_cases h : n < 0
  · rw [if_pos h, if_pos h]
    refine (bpow_neg h).mono ?_
    rintro e w' ⟨rfl, rfl⟩
    exact ⟨none, 0, 0, rfl, RwB.none_ _, Below.refl _ _⟩
  · rw [if_neg h, if_neg h]
    by_cases h2 : n ≤ 4096
    · rw [if_pos h2, if_pos h2]
      obtain ⟨k, rfl⟩ : ∃ k : Nat, n = (k : Int) := ⟨n.toNat, by omega⟩
      rw [Int.toNat_natCast]
      refine (bpow_ok (n := k) hb (by omega)).mono ?_
      rintro e w' ⟨ys, A, n, c, rfl, hr, hs, b⟩
      exact ⟨A, n, c, rfl, ⟨ys, hr, hs, by rw [← hs.len]; exact hr.len_le (by decide) (pw_small hb (by omega))⟩, b⟩
    · rw [if_neg h2, if_neg h2]
      refine (bpow_big (by omega)).mono ?_
      rintro e w' ⟨rfl, rfl⟩
      exact ⟨none, 0, 0, rfl, RwB.none_ _, Below.refl _ _⟩
theorem putR {M : Nat} {N : Int} {A : Option Addr} {n c : Nat} (h : RwB w M N A n c) (hM : M ≤ 1000000) : Calls Tryz.prog 25 #[.slice A n c] w (PutB w N) := by
  obtain ⟨xs, r, s, l⟩ := h
  have := bput_any s (Nat.le_refl _) r.dg (by omega)
  rw [r.val] at this
  exact this
end
theorem small_put : (4294967296 : Int) ^ 8 ≤ 1000000000 ^ 456 := by decide +kernel

set_option maxRecDepth 20000 in
set_option maxHeartbeats 8000000 in
theorem NatWords_any {w : World} {B : Nat} {A : Option Addr} {n c : Nat} {xs : List Int} {s : ByteArray} {b p : Int} (hs : Sl .u32 w B A n c xs) (hB : B ≤ w.heap.size) (hx : Dg 4294967296 xs) (hsz : s.size ≤ maxLen) (hb : 0 ≤ b ∧ b < 4294967296)
    (hp : -9223372036854775808 ≤ p ∧ p ≤ 9223372036854775807) (hE : Env w) :
    Calls Tryz.prog 5 #[.string s, .int .u32 b, .int .i64 p, .slice A n c] w fun e w' => e = .returned (.bool true) ∧ Below w.heap.size w w' := by
  have hW := Lib.hid (works_any w hE)
  have HE := Lib.hid hE
  have hsz' : (s.size : Int) ≤ 9223372036854775807 := by unfold maxLen at hsz; omega
  by_cases hbig : ¬ (60 < s.size ∧ s.size ≤ 4096) ∧ ¬ (40 < p ∧ p ≤ 4096) ∧ n ≤ 8
  · obtain ⟨l1, l2, l3⟩ := hbig
    have i3 : ¬ 8 < (n : Int) := by omega
    have HP := Lib.hid (fun w => txtS (w := w) s hsz)
    have HR := Lib.hid (fun w => txtR (w := w) s hsz)
    have HQ := Lib.hid (fun w => pwS (w := w) hb hp)
    have HT := Lib.hid (fun w => pwR (w := w) (n := p) hb)
    have a0 : RdS w 8 (val 4294967296 xs) A n c := ⟨xs, hx, rfl, hs.more hB, l3⟩
    have VA := Lib.hid (show ∀ w', Below w.heap.size w w' → Calls Tryz.prog 8 #[.slice A n c] w' fun e w'' => ∃ A n c, e = .returned (.slice A n c) ∧ RwB w'' 256 (val 4294967296 xs) A n c ∧ Below w'.heap.size w' w'' from
          fun w' hb => bitsB ((hs.more hB).up hb) (Nat.le_refl _) hx l3 (by omega))
    generalize val 4294967296 xs = a at *
    have ab := Int.lt_of_lt_of_le a0.bound.2 small_put
    generalize txtC s = tc at *
    generalize txtV s = tv at *
    generalize pwC p = pc at *
    generalize pwV b p = pv at *
    have q1 : (60 : Int) < s.size ∧ (¬ (s.size : Int) ≤ 4096) ∨ ¬ (60 : Int) < s.size := by omega
    have q2 : 40 < p ∧ ¬ p ≤ 4096 ∨ ¬ 40 < p := by omega
    clear hs hx hE hW hsz l1 l2 hb
    go_enter Tryz.func5, Tryz.ntmps5
    rcases q1 with ⟨q1, q1'⟩ | q1 <;> rcases q2 with ⟨q2, q2'⟩ | q2
    all_goals
      go_wp2_with fail
      refine (HP.out w).mono ?_
      rintro e w1 ⟨A1, n1, c1, rfl, r1, b1⟩
      go_wp2_with fail
      refine (HR.out w1).mono ?_
      rintro e w2 ⟨A2, n2, c2, rfl, r2, b2⟩
      have B2 := b1.trans (b2.mono b1.size)
      have r12 := r1.below b2
      clear b1 b2 r1
      go_wp2_with fail
      refine (HQ.out w2).mono ?_
      rintro e w3 ⟨A3, n3, c3, rfl, r3, b3⟩
      go_wp2_with fail
      refine (HT.out w3).mono ?_
      rintro e w4 ⟨A4, n4, c4, rfl, r4, b4⟩
      have b24 := b3.trans (b4.mono b3.size)
      have B4 := B2.trans (b24.mono B2.size)
      have H1 := Lib.hid (isB (r12.below b24) (r2.below b24) (by omega) rfl)
      have r34 := r3.below b4
      clear b3 b4 b24 r3 r12 r2 B2
      go_wp2_with fail
      refine H1.out.mono ?_
      rintro e w5 ⟨rfl, b5⟩
      have B5 := B4.trans (b5.mono B4.size)
      have H2 := Lib.hid (isB (r34.below b5) (r4.below b5) (by omega) rfl)
      clear B4 b5 r34 r4 H1
      go_wp2_with fail
      refine H2.out.mono ?_
      rintro e w6 ⟨rfl, b6⟩
      have B6 := B5.trans (b6.mono B5.size)
      have H3 := Lib.hid (putS (a0.below B6) (HE.out.below B6) (by omega) ab)
      clear B5 b6 H2
      go_wp2_with fail
      refine H3.out.mono ?_
      rintro e w7 ⟨t, rfl, ht, b7⟩
      have B7 := B6.trans (b7.mono B6.size)
      have H4 := Lib.hid (VA.out w7 B7)
      clear B6 b7 H3
      go_wp2_with fail
      refine H4.out.mono ?_
      rintro e w8 ⟨A8, n8, c8, rfl, r8, b8⟩
      have B8 := B7.trans (b8.mono B7.size)
      have H5 := Lib.hid (putR r8 (by omega))
      clear B7 b8 H4 r8
      go_wp2_with fail
      refine H5.out.mono ?_
      rintro e w9 ⟨t2, rfl, ht2, b9⟩
      obtain rfl : t2 = t := ByteArray.ext (Array.toList_inj.1 (by rw [ht2, ht]))
      have B9 := Lib.hid (B8.trans (b9.mono B8.size))
      have HW2 := Lib.hid (works_any w9 (HE.out.below B9.out))
      clear B8 b9 H5 ht ht2
      go_wp2_with fail
      refine HW2.out.mono ?_
      rintro e w10 ⟨rfl, b10⟩
      have B10 := Lib.hid (B9.out.trans (b10.mono B9.out.size))
      clear b10 HW2
      go_wp2_with fail
      go_ret
      exact ⟨rfl, B10.out⟩
  · have q : (60 < s.size ∧ s.size ≤ 4096) ∨ ¬ (60 < s.size ∧ s.size ≤ 4096) ∧ (40 < p ∧ p ≤ 4096) ∨ ¬ (60 < s.size ∧ s.size ≤ 4096) ∧ ¬ (40 < p ∧ p ≤ 4096) ∧ 8 < n := by omega
    have q1 : (60 : Int) < s.size ∧ (s.size : Int) ≤ 4096 ∨ ((60 : Int) < s.size ∧ (¬ (s.size : Int) ≤ 4096) ∨ ¬ (60 : Int) < s.size) ∧ ((40 < p ∧ p ≤ 4096) ∨ (40 < p ∧ ¬ p ≤ 4096 ∨ ¬ 40 < p) ∧ 8 < (n : Int)) := by omega
    clear q hbig hs hE HE hx hsz
    go_enter Tryz.func5, Tryz.ntmps5
    rcases q1 with ⟨q1, q2⟩ | ⟨⟨q1, q2⟩ | q1, ⟨q3, q4⟩ | ⟨⟨q3, q4⟩ | q3, q5⟩⟩
    all_goals
      go_wp2_with fail
      refine hW.out.mono ?_
      rintro e w1 ⟨rfl, b1⟩
      have B1 := Lib.hid b1
      clear b1
      go_wp2_with fail
      go_ret
      exact ⟨rfl, B1.out⟩
end Go.Proofs.YthicpakanhhipaaGreatDoor
