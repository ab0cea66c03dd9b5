/- tallagelaw01: LimbBack: it returns true, whatever the rows are. -/
import Derived.Test.YtgdfjfmgcnbdaaaDoorLawA
namespace Go.Proofs.YtgdfjfmgcnbdaaaDoor
open Go Go.RowKit

theorem Cmp_eq {w : World} {B : Nat} {A A2 : Option Addr} {n c m c2 : Nat} {xs ys : List Int} (hs : Sl .u32 w B A n c xs) (ht : Sl .u32 w B A2 m c2 ys) (hx : Dg 4294967296 xs) (hy : Dg 4294967296 ys) (h : val 4294967296 xs = val 4294967296 ys) :
    Calls Tryd.prog 19 #[.slice A n c, .slice A2 m c2] w fun e w' => e = .returned (.int .i64 0) ∧ Below w.heap.size w w' := by
  refine (Cmp_any hs ht hx hy).mono ?_
  rintro e w' ⟨hr, q, rfl⟩
  unfold CmpR at hr
  rw [hr, cmpI_eq h]
  exact ⟨rfl, Below.drewN' (Below.refl _ _) q⟩
/-- Not less. -/
def NotLess (e : Ending) : Prop := ∃ v : Int, 0 ≤ v ∧ e = .returned (.int .i64 v)
theorem Cmp_ge {w : World} {B : Nat} {A A2 : Option Addr} {n c m c2 : Nat} {xs ys : List Int} (hs : Sl .u32 w B A n c xs) (ht : Sl .u32 w B A2 m c2 ys) (hx : Dg 4294967296 xs) (hy : Dg 4294967296 ys) (h : val 4294967296 ys ≤ val 4294967296 xs) :
    Calls Tryd.prog 19 #[.slice A n c, .slice A2 m c2] w fun e w' => NotLess e ∧ Below w.heap.size w w' := by
  refine (Cmp_any hs ht hx hy).mono ?_
  rintro e w' ⟨hr, q, rfl⟩
  unfold CmpR at hr
  refine ⟨⟨_, ?_, hr⟩, Below.drewN' (Below.refl _ _) q⟩
  unfold cmpI
  rw [if_neg (by omega)]
  split <;> omega
theorem Shift_up {w : World} {B : Nat} {A : Option Addr} {n c : Nat} {xs : List Int} {m : Nat} (hs : Sl .u32 w B A n c xs) (hB : B ≤ w.heap.size) (hx : Dg 4294967296 xs) (hn : n ≤ 1000000000) (hm : m ≤ 65536) :
    Calls Tryd.prog 28 #[.slice A n c, .int .i64 m] w (NewE w (2 ^ m * val 4294967296 xs)) := by
  refine (Shift_any hs hB hx hn (by omega) (by omega)).mono ?_
  intro e w' h
  unfold ShiftR at h
  rw [if_neg (by omega)] at h
  split at h
  · rename_i h0
    obtain ⟨rfl, hb⟩ := h
    exact ⟨[], none, 0, 0, ⟨Dg.nil, Tr.nil, by rw [h0, Int.mul_zero]; rfl⟩, rfl, Own.nil, hb⟩
  · rw [if_neg (by omega)] at h
    exact h
theorem Shift_down {w : World} {B : Nat} {A : Option Addr} {n c : Nat} {xs : List Int} {m : Nat} (hs : Sl .u32 w B A n c xs) (hB : B ≤ w.heap.size) (hx : Dg 4294967296 xs) (hn : n ≤ 1000000000) (hm : m ≤ 65536) :
    Calls Tryd.prog 28 #[.slice A n c, .int .i64 (-(m : Int))] w (NewE w (val 4294967296 xs / 2 ^ m)) := by
  refine (Shift_any hs hB hx hn (by omega) (by omega)).mono ?_
  intro e w' h
  unfold ShiftR at h
  rcases Nat.eq_zero_or_pos m with h0 | h0
  · subst h0
    rw [if_neg (by omega)] at h
    simp only [Int.pow_zero, Int.ediv_one]
    split at h
    · rename_i h0
      obtain ⟨rfl, hb⟩ := h
      exact ⟨[], none, 0, 0, ⟨Dg.nil, Tr.nil, by rw [h0]; rfl⟩, rfl, Own.nil, hb⟩
    · rw [if_neg (by omega)] at h
      simpa using h
  · rw [if_pos (by omega)] at h
    simpa using h
theorem IsBits.shift {N : Int} {b : Nat} (h : IsBits N b) (h0 : 0 < N) (n : Nat) : IsBits (2 ^ n * N) (b + n) := by
  have p : (2 : Int) ^ n ≠ 0 := by have := pow_pos' (show (0 : Int) < 2 by decide) n; omega
  have e : 2 ^ n * N / 2 ^ n = N := by rw [Int.mul_comm, Int.mul_ediv_cancel _ p]
  exact IsBits.high (by rw [e]; exact h0) (by rw [e]; exact h)

theorem bits_le {N : Int} {b : Nat} (h : IsBits N b) (_h0 : 0 ≤ N) (h1 : N < 4294967296 ^ 60) : b ≤ 1920 := by
  rcases h with ⟨_, h⟩ | ⟨_, h2, _⟩
  · omega
  · rcases Nat.lt_or_ge 1920 b with hb | hb
    · have := pow_mono (show (0 : Int) < 2 by decide) (show 1920 ≤ b - 1 by omega)
      rw [show (4294967296 : Int) = 2 ^ 32 from rfl, ← Int.pow_mul] at h1
      omega
    · exact hb
theorem shift_len {xs : List Int} (hx : Dg 4294967296 xs) (hl : xs.length ≤ 60) {s : Nat} (hs : s ≤ 2000) : ∀ zs, Row 4294967296 (2 ^ s * val 4294967296 xs) zs → zs.length ≤ 123 := by
  intro zs hz
  refine hz.len_le (by decide) ?_
  have h1 := val_nonneg (by decide) hx
  have h2 : val 4294967296 xs < 4294967296 ^ 60 := Int.lt_of_lt_of_le (val_lt (by decide) hx) (pow_mono (by decide) hl)
  have h3 : (2 : Int) ^ s ≤ 4294967296 ^ 63 := by
    rw [show (4294967296 : Int) = 2 ^ 32 from rfl, ← Int.pow_mul]
    exact pow_mono (by decide) (by omega)
  have h4 : (4294967296 : Int) ^ 123 = 4294967296 ^ 63 * 4294967296 ^ 60 := by rw [← Int.pow_add]
  have p1 : (0 : Int) < 2 ^ s := pow_pos' (by decide) s
  have p2 : (0 : Int) < 4294967296 ^ 60 := pow_pos' (by decide) 60
  rw [h4]
  generalize (4294967296 : Int) ^ 60 = Y at *
  generalize (4294967296 : Int) ^ 63 = Z at *
  exact Int.lt_of_lt_of_le (Int.mul_lt_mul_of_pos_left h2 p1) (Int.mul_le_mul_of_nonneg_right h3 (by omega))

set_option maxRecDepth 100000 in
set_option maxHeartbeats 4000000 in
theorem LimbBack_any {w : World} {B : Nat} {A A2 : Option Addr} {n c m c2 : Nat} {xs ys : List Int} {d : Int} {s : Nat} (hs : Sl .u32 w B A n c xs) (ht : Sl .u32 w B A2 m c2 ys) (hB : B ≤ w.heap.size) (hx : Dg 4294967296 xs) (hy : Dg 4294967296 ys)
    (hd : 0 ≤ d ∧ d < 4294967296) (hsm : s < 65536) (hT : HalfT w) (h0 : 0 < w.heap.size) :
    Calls Tryd.prog 6 #[.slice A n c, .slice A2 m c2, .int .u32 d, .int .u16 s] w fun e w' => e = .returned (.bool true) ∧ Below w.heap.size w w' := by
  have HT := Lib.hid hT
  clear hT
  by_cases c1 : 60 < n
  · go_enter Tryd.func6, Tryd.ntmps6
    go_wp2_with fail
    refine (works_any w HT.out h0).mono ?_
    rintro e w' ⟨rfl, hb⟩
    go_wp2
    go_ret
    exact ⟨rfl, hb⟩
  by_cases c2' : 60 < m
  · go_enter Tryd.func6, Tryd.ntmps6
    go_wp2_with fail
    refine (works_any w HT.out h0).mono ?_
    rintro e w' ⟨rfl, hb⟩
    go_wp2
    go_ret
    exact ⟨rfl, hb⟩
  by_cases c3 : 2000 < s
  · go_enter Tryd.func6, Tryd.ntmps6
    go_wp2_with fail
    refine (works_any w HT.out h0).mono ?_
    rintro e w' ⟨rfl, hb⟩
    go_wp2
    go_ret
    exact ⟨rfl, hb⟩
  have hn : n ≤ 60 := by omega
  have hm : m ≤ 60 := by omega
  have hs2 : s ≤ 2000 := by omega
  clear c1 c2' c3
  have vx0 := val_nonneg (by decide) hx
  have vy0 := val_nonneg (by decide) hy
  have vx1 : val 4294967296 xs < 4294967296 ^ 60 := Int.lt_of_lt_of_le (val_lt (by decide) hx) (pow_mono (by decide) (by have := hs.len; omega))
  have vy1 : val 4294967296 ys < 4294967296 ^ 60 := Int.lt_of_lt_of_le (val_lt (by decide) hy) (pow_mono (by decide) (by have := ht.len; omega))
  have VX1 := Lib.hid vx1
  have VY1 := Lib.hid vy1
  clear vx1 vy1
  go_enter Tryd.func6, Tryd.ntmps6
  go_wp2_with fail
  refine (Add_any hs ht hB hx hy (by omega) (by omega)).mono ?_
  rintro e w1 ⟨zs, hz, A1, n1, c1, rfl, ho1, b1⟩
  have hzl : n1 ≤ 61 := by
    have := hz.len_le (k := 61) (by decide) (by have a := VX1.out; have b := VY1.out; rw [show (4294967296 : Int) ^ 61 = 4294967296 ^ 60 * 4294967296 from Int.pow_succ ..]; generalize (4294967296 : Int) ^ 60 = Y at *; omega)
    have := ho1.len
    omega
  go_wp2_with fail
  refine (Sub_any ho1.sl ((ht.below b1 hB).more (Nat.le_trans hB b1.size)) (Nat.le_refl _) hz.dg hy (by rw [hz.val]; omega) (by omega)).mono ?_
  rintro e w2 ⟨us, A2', n2, c2', hu, rfl, ho2, b2⟩
  rw [hz.val, Int.add_sub_cancel] at hu
  have b02 := b1.trans (b2.mono b1.size)
  go_wp2_with fail
  refine (Sub_any (ho1.below b2).sl ((hs.below b02 hB).more (Nat.le_trans hB b02.size)) (Nat.le_refl _) hz.dg hx (by rw [hz.val]; omega) (by omega)).mono ?_
  rintro e w3 ⟨vs, A3, n3, c3, hv, rfl, ho3, b3⟩
  have hv' : Row 4294967296 (val 4294967296 ys) vs := by
    rw [hz.val, show val 4294967296 xs + val 4294967296 ys - val 4294967296 xs = val 4294967296 ys by omega] at hv
    exact hv
  have b03 := b02.trans (b3.mono b02.size)
  have s1 := ((ho1.below b2).below b3).sl
  have s2 := (ho2.below b3).sl
  have s3 := ho3.sl
  have sa := (hs.below b03 hB).more (Nat.le_trans hB b03.size)
  have sb := (ht.below b03 hB).more (Nat.le_trans hB b03.size)
  clear ho1 ho2 ho3 b1 b2 b3 b02 hv
  go_wp2_with fail
  refine (Cmp_eq s2 sa hu.dg hx hu.val).mono ?_
  rintro e w4 ⟨rfl, b4⟩
  go_wp2_with fail
  refine (Cmp_eq (s3.below b4 (Nat.le_refl _)) (sb.below b4 (Nat.le_refl _)) hv'.dg hy hv'.val).mono ?_
  rintro e w5 ⟨rfl, b5⟩
  have b35 := b4.trans (b5.mono b4.size)
  clear b4 b5
  go_wp2_with fail
  refine (Cmp_ge (s1.below b35 (Nat.le_refl _)) (sa.below b35 (Nat.le_refl _)) hz.dg hx (by rw [hz.val]; omega)).mono ?_
  rintro e w6 ⟨⟨v, hv0, rfl⟩, b6⟩
  have b36 := b35.trans (b6.mono b35.size)
  clear b35 b6
  go_wp2_with fail
  refine (Cmp_ge (s1.below b36 (Nat.le_refl _)) (sb.below b36 (Nat.le_refl _)) hz.dg hy (by rw [hz.val]; omega)).mono ?_
  rintro e w7 ⟨⟨v', hv0', rfl⟩, b7⟩
  have b37 := b36.trans (b7.mono b36.size)
  have b07 := b03.trans (b37.mono b03.size)
  clear b36 b7 b37 b03 s1 s2 s3 sa sb hu hv' hz hzl
  have hxl := hs.len
  have HSL := Lib.hid (shift_len hx (by omega) hs2)
  by_cases hd0 : d = 0
  case' pos =>
    subst hd0
    go_wp2_with fail
    refine DivSmall_zero.mono ?_
    rintro e w8 ⟨rfl, rfl⟩
    have bq := b07
    clear b07
    go_wp2_with fail
  case' neg =>
    have hdb : (d == 0) = false := beq_eq_false_iff_ne.2 hd0
    go_wp2_with fail
    refine (DivSmall_any (hs.below b07 hB) (Nat.le_trans hB b07.size) hx (d := d) (by omega) (by omega)).mono ?_
    rintro e w8 ⟨qs, A8, n8, c8, hq, rfl, ho8, b8⟩
    have hr0 := Int.emod_nonneg (val 4294967296 xs) hd0
    have hr1 := Int.emod_lt_of_pos (val 4294967296 xs) (show 0 < d by omega)
    have hrd : decide (d ≤ val 4294967296 xs % d) = false := by simp; omega
    have hqv := Lib.hid (Int.emod_add_mul_ediv (val 4294967296 xs) d)
    have hq8 : n8 ≤ 60 := by
      have := hq.len_le (k := 60) (by decide) (Int.lt_of_le_of_lt (Int.ediv_le_self _ vx0) VX1.out)
      have := ho8.len
      omega
    go_wp2_with fail
    refine (MulSmall_any ho8.sl (Nat.le_refl _) hq.dg (m := d) hd (by omega)).mono ?_
    rintro e w9 ⟨ps, hp, A9, n9, c9, rfl, ho9, b9⟩
    have hp9 : n9 ≤ 60 := by
      have := hp.len_le (k := 60) (by decide) (by rw [hq.val]; refine Int.lt_of_le_of_lt ?_ VX1.out; have := hqv.out; omega)
      have := ho9.len
      omega
    have hpv := Lib.hid (show val 4294967296 ps + val 4294967296 xs % d = val 4294967296 xs by rw [hp.val, hq.val]; have := hqv.out; omega)
    have hrl : 0 ≤ val 4294967296 xs % d ∧ val 4294967296 xs % d < 4294967296 := by omega
    generalize hR : val 4294967296 xs % d = R at *
    clear hR
    have b79 := b8.trans (b9.mono b8.size)
    clear b8 b9 ho8 hq hqv hq8
    go_wp2_with fail
    refine (Add_any ((ho9.sl.alloc (Nat.le_refl _) _).more (Nat.le_succ _)) (lit1 w9 w9.heap.size rfl R 37) (by rw [size_one]; omega) hp.dg (dg1 hrl) (by omega) (by omega)).mono ?_
    rintro e w10 ⟨as_, ha, A10, n10, c10, rfl, ho10, b10⟩
    have b0q := b07.trans ((b79.trans ((below_a1 b10).mono b79.size)).mono b07.size)
    have hav : val 4294967296 as_ = val 4294967296 xs := by rw [ha.val]; have := hpv.out; simp [val]; omega
    have HAV := Lib.hid hav
    clear hav b79 b10 hpv hp ho9 b07
    go_wp2_with fail
    refine (Cmp_eq ho10.sl ((hs.below b0q hB).more (Nat.le_trans hB b0q.size)) ha.dg hx HAV.out).mono ?_
    rintro e w11 ⟨rfl, b11⟩
    have bq := b0q.trans (b11.mono b0q.size)
    clear b0q b11 ha ho10 HAV hrl hr0 hr1 hrd hp9
    go_wp2_with fail
  all_goals
    refine (Shift_up (hs.below bq hB) (Nat.le_trans hB bq.size) hx (by omega) (by omega)).mono ?_
    rintro e w12 ⟨ls, A12, n12, c12, hl, rfl, ho12, b12⟩
    have hl12 : n12 ≤ 123 := by have := HSL.out _ hl; have := ho12.len; omega
    have bq2 := bq.trans (b12.mono bq.size)
    clear bq b12
    go_wp2_with fail
    refine (Shift_down ho12.sl (Nat.le_refl _) hl.dg (by omega) (m := s) (by omega)).mono ?_
    rintro e w13 ⟨ks, A13, n13, c13, hk, rfl, ho13, b13⟩
    have hkv : val 4294967296 ks = val 4294967296 xs := by
      rw [hk.val, hl.val, Int.mul_comm, Int.mul_ediv_cancel _ (by have := pow_pos' (show (0 : Int) < 2 by decide) s; omega)]
    have HKV := Lib.hid hkv
    have bq3 := bq2.trans (b13.mono bq2.size)
    have s12 := (ho12.below b13).sl
    clear hkv b13 bq2 ho12
    go_wp2_with fail
    refine (Bits_any (hs.below bq3 hB) (HT.out.below bq3 h0) hx (by omega)).mono ?_
    rintro e w14 ⟨⟨b, hbits, rfl⟩, rfl⟩
    go_wp2_with fail
    refine (Cmp_eq ho13.sl ((hs.below bq3 hB).more (Nat.le_trans hB bq3.size)) hk.dg hx HKV.out).mono ?_
    rintro e w15 ⟨rfl, b15⟩
    have bq4 := bq3.trans (b15.mono bq3.size)
    have s12' := s12.below b15 (Nat.le_refl _)
    have hbl : b ≤ 1920 := bits_le hbits vx0 VX1.out
    clear b15 bq3 s12 ho13 hk HKV
    by_cases hb0 : b = 0
    · have hv0 : val 4294967296 xs = 0 := by
        rcases hbits with ⟨h, _⟩ | ⟨h, _⟩
        · exact h
        · omega
      have HV0 := Lib.hid hv0
      subst hb0
      clear hv0
      go_wp2_with fail
      refine (Bits_any s12' (HT.out.below bq4 h0) hl.dg (by omega)).mono ?_
      rintro e w16 ⟨⟨b', hbits', rfl⟩, rfl⟩
      obtain rfl : b' = 0 := by
        rw [hl.val, HV0.out, Int.mul_zero] at hbits'
        exact hbits'.uniq (.inl ⟨rfl, rfl⟩)
      clear hbits hbits' HV0
      go_wp2_with fail
      refine (works_any _ (HT.out.below bq4 h0) (Nat.lt_of_lt_of_le h0 bq4.size)).mono ?_
      rintro e w17 ⟨rfl, b17⟩
      have bq5 := bq4.trans (b17.mono bq4.size)
      clear bq4 b17
      go_wp2
      go_ret
      exact ⟨rfl, bq5⟩
    · have hvpos : 0 < val 4294967296 xs := by
        rcases hbits with ⟨_, h⟩ | ⟨_, h, _⟩
        · omega
        · have := pow_pos' (show (0 : Int) < 2 by decide) (b - 1); omega
      have hbb : ((b : Int) == 0) = false := beq_eq_false_iff_ne.2 (by omega)
      have hsh := Lib.hid (hbits.shift hvpos s)
      clear hbits
      go_wp2_with fail
      refine (Bits_any s12' (HT.out.below bq4 h0) hl.dg (by omega)).mono ?_
      rintro e w16 ⟨⟨b', hbits', rfl⟩, rfl⟩
      obtain rfl : b' = b + s := by
        rw [hl.val] at hbits'
        exact hbits'.uniq hsh.out
      clear hbits' hsh
      go_wp2_with fail
      refine (works_any _ (HT.out.below bq4 h0) (Nat.lt_of_lt_of_le h0 bq4.size)).mono ?_
      rintro e w17 ⟨rfl, b17⟩
      have bq5 := bq4.trans (b17.mono bq4.size)
      clear bq4 b17
      go_wp2
      go_ret
      exact ⟨rfl, bq5⟩
end Go.Proofs.YtgdfjfmgcnbdaaaDoor
