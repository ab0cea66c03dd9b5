/- tallagelaw02: NatParts: it returns true, whatever the rows are. -/
import Derived.Test.YthicpakanhhipaaGreatDoorNLawA
namespace Go.Proofs.YthicpakanhhipaaGreatDoor
open Go Go.RowKit

/-- A slice that counts N; and one that is trimmed, too. -/
def RdS (w : World) (M : Nat) (N : Int) (A : Option Addr) (n c : Nat) : Prop := ∃ ys, Dg 4294967296 ys ∧ val 4294967296 ys = N ∧ Sl .u32 w w.heap.size A n c ys ∧ n ≤ M
def RwS (w : World) (M : Nat) (N : Int) (A : Option Addr) (n c : Nat) : Prop := ∃ ys, Row 4294967296 N ys ∧ Sl .u32 w w.heap.size A n c ys ∧ n ≤ M
section
variable {w w' : World} {M M2 : Nat} {N K : Int} {A A2 : Option Addr} {n c m c2 : Nat}
theorem RwS.rd (h : RwS w M N A n c) : RdS w M N A n c := by obtain ⟨ys, r, s, l⟩ := h; exact ⟨ys, r.dg, r.val, s, l⟩
theorem RdS.below (h : RdS w M N A n c) (hb : Below w.heap.size w w') : RdS w' M N A n c := by
  obtain ⟨ys, d, v, s, l⟩ := h; exact ⟨ys, d, v, (s.below hb (Nat.le_refl _)).more hb.size, l⟩
theorem RwS.below (h : RwS w M N A n c) (hb : Below w.heap.size w w') : RwS w' M N A n c := by
  obtain ⟨ys, r, s, l⟩ := h; exact ⟨ys, r, (s.below hb (Nat.le_refl _)).more hb.size, l⟩
theorem RdS.alloc (h : RdS w M N A n c) (o : Obj) : RdS (w.alloc o) M N A n c := h.below ((Below.refl _ _).alloc (Nat.le_refl _) o)
theorem RwS.alloc (h : RwS w M N A n c) (o : Obj) : RwS (w.alloc o) M N A n c := h.below ((Below.refl _ _).alloc (Nat.le_refl _) o)
theorem RdS.bound (h : RdS w M N A n c) : 0 ≤ N ∧ N < 4294967296 ^ M := by
  obtain ⟨ys, d, v, s, l⟩ := h
  have h0 := val_nonneg (β := 4294967296) (by decide) d
  have h1 := val_lt (β := 4294967296) (by decide) d
  rw [v] at h0 h1
  rw [s.len] at h1
  have := pow_mono (show (0 : Int) < 4294967296 by decide) l
  omega
theorem RwS.bound (h : RwS w M N A n c) : 0 ≤ N ∧ N < 4294967296 ^ M := h.rd.bound
theorem NewN.rw {e : Ending} (h : NewN w N e w') (hN : N < 4294967296 ^ M) : ∃ A n c, e = .returned (.slice A n c) ∧ RwS w' M N A n c ∧ Below w.heap.size w w' := by
  obtain ⟨ys, r, A, n, c, rfl, o, b⟩ := h
  refine ⟨A, n, c, rfl, ⟨ys, r, o.sl, ?_⟩, b⟩
  rw [← o.len]
  exact r.len_le (by decide) hN
theorem RwS.row {w : World} {B : Nat} {ys : List Int} (hr : Row 4294967296 N ys) (hs : Sl .u32 w B A n c ys) (hB : B ≤ w.heap.size) (hN : N < 4294967296 ^ M) : RwS w M N A n c :=
  ⟨ys, hr, hs.more hB, by rw [← hs.len]; exact hr.len_le (by decide) hN⟩
theorem pow_mul {M M2 : Nat} {N K : Int} (h0 : 0 ≤ N ∧ N < 4294967296 ^ M) (h1 : 0 ≤ K ∧ K < 4294967296 ^ M2) : N * K < 4294967296 ^ (M + M2) := by
  rw [Int.pow_add]
  have p := pow_pos' (show (0 : Int) < 4294967296 by decide) M2
  have h2 : N * K ≤ N * 4294967296 ^ M2 := Int.mul_le_mul_of_nonneg_left (by omega) h0.1
  have h3 : N * 4294967296 ^ M2 < 4294967296 ^ M * 4294967296 ^ M2 := Int.mul_lt_mul_of_pos_right h0.2 p
  omega
theorem mulS (h1 : RdS w M N A n c) (h2 : RdS w M2 K A2 m c2) (hM : M ≤ 100000 ∧ M2 ≤ 100000) : Calls Tryz.prog 11 #[.slice A n c, .slice A2 m c2] w fun e w' => ∃ A n c, e = .returned (.slice A n c) ∧ RwS w' (M + M2) (N * K) A n c ∧ Below w.heap.size w w' := by
  have hp := pow_mul h1.bound h2.bound
  obtain ⟨xs, d1, v1, s1, l1⟩ := h1
  obtain ⟨ys, d2, v2, s2, l2⟩ := h2
  refine (Mul_any s1 s2 (Nat.le_refl _) d1 d2 (by omega) (by omega)).mono fun e w' h => ?_
  rw [v1, v2] at h
  exact h.rw hp
theorem addS (h1 : RdS w M N A n c) (h2 : RdS w M K A2 m c2) (hM : M ≤ 100000) : Calls Tryz.prog 42 #[.slice A n c, .slice A2 m c2] w fun e w' => ∃ A n c, e = .returned (.slice A n c) ∧ RwS w' (M + 1) (N + K) A n c ∧ Below w.heap.size w w' := by
  have b1 := h1.bound
  have b2 := h2.bound
  obtain ⟨xs, d1, v1, s1, l1⟩ := h1
  obtain ⟨ys, d2, v2, s2, l2⟩ := h2
  refine (Add_any s1 s2 (Nat.le_refl _) d1 d2 (by omega) (by omega)).mono fun e w' h => ?_
  rw [v1, v2] at h
  refine h.rw ?_
  rw [Int.pow_succ]
  omega
theorem trimS (h1 : RdS w M N A n c) (hM : M ≤ 100000) : Calls Tryz.prog 31 #[.slice A n c] w fun e w' => ∃ A n c, e = .returned (.slice A n c) ∧ RwS w' M N A n c ∧ Below w.heap.size w w' := by
  obtain ⟨xs, d1, v1, s1, l1⟩ := h1
  refine (Trim_any s1 (by omega)).mono ?_
  rintro e w' ⟨A, n, c, rfl, o, b⟩
  refine ⟨A, n, c, rfl, ⟨tl xs, ⟨tl_Dg d1, tl_idem _, by rw [tl_val, v1]⟩, o.sl, ?_⟩, b⟩
  have := tl_len xs
  have := s1.len
  have := o.len
  omega
theorem sameS (h1 : RwS w M N A n c) (h2 : RwS w M2 K A2 m c2) (e : N = K) : Calls Tryz.prog 14 #[.slice A n c, .slice A2 m c2] w fun e w' => e = .returned (.bool true) ∧ Below w.heap.size w w' := by
  obtain ⟨xs, r1, s1, l1⟩ := h1
  obtain ⟨ys, r2, s2, l2⟩ := h2
  subst e
  obtain rfl := r1.uniq (by decide) r2
  exact same_b s1 s2
theorem bitsS (h1 : RdS w M N A n c) (hE : Env w) (hM : M ≤ 100000) : Calls Tryz.prog 46 #[.slice A n c] w fun e w' => (∃ b : Nat, (b = 0 ↔ N = 0) ∧ e = .returned (.int .i64 b)) ∧ w = w' := by
  obtain ⟨xs, d1, v1, s1, l1⟩ := h1
  refine (Bits_any s1 hE.half d1 (by omega)).mono ?_
  rintro e w' ⟨⟨b, hb, rfl⟩, rfl⟩
  rw [v1] at hb
  refine ⟨⟨b, ?_, rfl⟩, rfl⟩
  rcases hb with ⟨h1, h2⟩ | ⟨h1, h2, h3⟩
  · omega
  · have := pow_pos' (show (0 : Int) < 2 by decide) (b - 1)
    omega
theorem cmpS (h1 : RdS w M N A n c) (h2 : RdS w M2 K A2 m c2) (hlt : N < K) : Calls Tryz.prog 34 #[.slice A n c, .slice A2 m c2] w fun e w' => e = .returned (.int .i64 (-1)) ∧ Below w.heap.size w w' := by
  obtain ⟨xs, d1, v1, s1, l1⟩ := h1
  obtain ⟨ys, d2, v2, s2, l2⟩ := h2
  refine (Cmp_any s1 s2 d1 d2).mono ?_
  rintro e w' ⟨hr, q, rfl⟩
  unfold CmpR at hr
  rw [hr, v1, v2, cmpI_lt hlt]
  exact ⟨rfl, Below.drewN' (Below.refl _ _) q⟩
theorem divS (h1 : RdS w M N A n c) (h2 : RdS w M2 K A2 m c2) (hE : Env w) (hM : M ≤ 100000 ∧ M2 ≤ 100000) (hK : 0 < K) : Calls Tryz.prog 17 #[.slice A n c, .slice A2 m c2] w fun e w' =>
    ∃ A n c A2 n2 c2, e = .returned (.tuple #[.slice A n c, .slice A2 n2 c2, .int .i64 0]) ∧ RwS w' M (N / K) A n c ∧ RwS w' M2 (N % K) A2 n2 c2 ∧ Below w.heap.size w w' := by
  have b1 := h1.bound
  have b2 := h2.bound
  obtain ⟨xs, d1, v1, s1, l1⟩ := h1
  obtain ⟨ys, d2, v2, s2, l2⟩ := h2
  refine (DivMod_any s1 s2 (Nat.le_refl _) hE.half hE.hz d1 d2 (by omega) (by omega)).mono ?_
  rintro e w' h
  rw [v1, v2] at h
  rcases h with ⟨h, _⟩ | ⟨_, qs, rs, A, n, c, A2, n2, c2, rfl, rq, rr, o1, o2, b⟩
  · omega
  · have q1 : N / K ≤ N := Int.ediv_le_self K b1.1
    have r1 := Int.emod_lt_of_pos N hK
    exact ⟨A, n, c, A2, n2, c2, rfl, .row rq o1.sl (Nat.le_refl _) (by omega), .row rr o2.sl (Nat.le_refl _) (by omega), b⟩
theorem div0 (h1 : RdS w M N A n c) (h2 : RdS w M2 0 A2 m c2) (hE : Env w) (hM : M ≤ 100000 ∧ M2 ≤ 100000) : Calls Tryz.prog 17 #[.slice A n c, .slice A2 m c2] w fun e w' =>
    e = .returned (.tuple #[.slice none 0 0, .slice none 0 0, .int .i64 20]) ∧ Below w.heap.size w w' := by
  obtain ⟨xs, d1, v1, s1, l1⟩ := h1
  obtain ⟨ys, d2, v2, s2, l2⟩ := h2
  refine (DivMod_any s1 s2 (Nat.le_refl _) hE.half hE.hz d1 d2 (by omega) (by omega)).mono ?_
  rintro e w' h
  rw [v1, v2] at h
  rcases h with ⟨_, h, b⟩ | ⟨h, _⟩
  · exact ⟨h, b⟩
  · omega
theorem gcd0 {a : Int} (h : 0 ≤ a) : gcdI 0 a = a := by rw [gcdI_comm, gcdI_zero h]
/-- The greatest divisor of a row of two that has just been made. -/
theorem gcdS (h1 : RdS w M N A n c) (h2 : RdS w M K A2 m c2) (hE : Env w) (hM : M ≤ 2000) :
    Calls Tryz.prog 18 #[.slice (some ⟨w.heap.size, 0, none⟩) 2 2] (w.alloc (.cells #[.slice A n c, .slice A2 m c2] 22)) fun e w' => ∃ A n c, e = .returned (.slice A n c) ∧ RwS w' M (gcdI N K) A n c ∧ Below w.heap.size w w' := by
  have b1 := h1.bound
  have b2 := h2.bound
  obtain ⟨xs, d1, v1, s1, l1⟩ := h1
  obtain ⟨ys, d2, v2, s2, l2⟩ := h2
  have E1 := hE.below ((Below.refl _ _).alloc (Nat.le_refl _) (.cells #[.slice A n c, .slice A2 m c2] 22))
  have hl1 := s1.len
  have hl2 := s2.len
  refine (Gcd_any (M := M) (SlS.two w (Nat.le_refl _) s1 s2 22) (by rw [size_one]; exact Nat.le_refl _) E1.half E1.hz (by simp [d1, d2]; omega) hM).mono fun e w' h => ?_
  have e1 : gcdL 0 [xs, ys] = gcdI N K := by simp only [gcdL, v1, v2, gcd0 b1.1]
  rw [e1] at h
  have hg : gcdI N K < 4294967296 ^ M := by
    rcases (show N = 0 ∨ 0 < N by omega) with h | h
    · rw [h, gcd0 b2.1]; exact b2.2
    · have := gcdI_le (a := N) (b := K) h; omega
  obtain ⟨A, n, c, rfl, r, b⟩ := h.rw hg
  exact ⟨A, n, c, rfl, r, below_a1 b⟩
/-- The product of three that have just been put into a row. -/
theorem prodS {M3 : Nat} {L : Int} {A3 : Option Addr} {k c3 : Nat} (h1 : RdS w M N A n c) (h2 : RdS w M2 K A2 m c2) (h3 : RdS w M3 L A3 k c3) (hM : M + M2 + M3 ≤ 100000) :
    Calls Tryz.prog 12 #[.slice (some ⟨w.heap.size, 0, none⟩) 3 3] (w.alloc (.cells #[.slice A n c, .slice A2 m c2, .slice A3 k c3] 22)) fun e w' => ∃ A n c, e = .returned (.slice A n c) ∧ RwS w' (M + M2 + M3) (N * K * L) A n c ∧ Below w.heap.size w w' := by
  have hp := pow_mul ⟨Int.mul_nonneg h1.bound.1 h2.bound.1, pow_mul h1.bound h2.bound⟩ h3.bound
  obtain ⟨xs, d1, v1, s1, l1⟩ := h1
  obtain ⟨ys, d2, v2, s2, l2⟩ := h2
  obtain ⟨zs, d3, v3, s3, l3⟩ := h3
  have hl1 := s1.len
  have hl2 := s2.len
  have hl3 := s3.len
  refine (Product_any (SlS.three w (Nat.le_refl _) s1 s2 s3 22) (by rw [size_one]; exact Nat.le_refl _) (by simp [d1, d2, d3]) (by simp only [totl]; omega)).mono fun e w' h => ?_
  have e1 : prodv [xs, ys, zs] = N * K * L := by simp only [prodv, v1, v2, v3, Int.mul_one, Int.mul_assoc]
  rw [e1] at h
  obtain ⟨A, n, c, rfl, r, b⟩ := h.rw hp
  exact ⟨A, n, c, rfl, r, below_a1 b⟩
end

set_option maxRecDepth 20000 in
set_option maxHeartbeats 8000000 in
theorem NatParts_any {w : World} {B : Nat} {A A2 A3 : Option Addr} {n c m c2 k c3 : Nat} {xs ys zs : List Int} (hs : Sl .u32 w B A n c xs) (ht : Sl .u32 w B A2 m c2 ys) (hu : Sl .u32 w B A3 k c3 zs) (hB : B ≤ w.heap.size)
    (hx : Dg 4294967296 xs) (hy : Dg 4294967296 ys) (hz : Dg 4294967296 zs) (hE : Env w) :
    Calls Tryz.prog 26 #[.slice A n c, .slice A2 m c2, .slice A3 k c3] w fun e w' => e = .returned (.bool true) ∧ Below w.heap.size w w' := by
  have hW := Lib.hid (works_any w hE)
  have HE := Lib.hid hE
  by_cases hbig : n ≤ 40 ∧ m ≤ 40 ∧ k ≤ 40
  · obtain ⟨l1, l2, l3⟩ := hbig
    have i1 : ¬ 40 < (n : Int) := by omega
    have i2 : ¬ 40 < (m : Int) := by omega
    have i3 : ¬ 40 < (k : Int) := by omega
    have a0 : RdS w 40 (val 4294967296 xs) A n c := ⟨xs, hx, rfl, hs.more hB, l1⟩
    have b0 : RdS w 40 (val 4294967296 ys) A2 m c2 := ⟨ys, hy, rfl, ht.more hB, l2⟩
    have c0 : RdS w 40 (val 4294967296 zs) A3 k c3 := ⟨zs, hz, rfl, hu.more hB, l3⟩
    generalize val 4294967296 xs = a at *
    generalize val 4294967296 ys = b at *
    generalize val 4294967296 zs = d at *
    clear hs ht hu hx hy hz hE
    go_enter Tryz.func26, Tryz.ntmps26
    go_wp2_with fail
    refine (addS b0 c0 (by omega)).mono ?_
    rintro e w1 ⟨A4, n4, c4, rfl, r4, b1⟩
    have a1 := a0.below b1
    go_wp2_with fail
    refine (mulS a1 r4.rd (by omega)).mono ?_
    rintro e w2 ⟨A5, n5, c5, rfl, r5, b2⟩
    have B2 := b1.trans (b2.mono b1.size)
    have a2 := a0.below B2
    have b2' := b0.below B2
    have c2' := c0.below B2
    go_wp2_with fail
    refine (mulS a2 b2' (by omega)).mono ?_
    rintro e w3 ⟨A6, n6, c6, rfl, r6, b3⟩
    go_wp2_with fail
    refine (mulS (a2.below b3) (c2'.below b3) (by omega)).mono ?_
    rintro e w4 ⟨A7, n7, c7, rfl, r7, b4⟩
    go_wp2_with fail
    refine (addS (r6.below b4).rd r7.rd (by omega)).mono ?_
    rintro e w5 ⟨A8, n8, c8, rfl, r8, b5⟩
    have B5 := b3.trans ((b4.trans (b5.mono b4.size)).mono b3.size)
    go_wp2_with fail
    refine (sameS (r5.below B5) r8 (Int.mul_add _ _ _)).mono ?_
    rintro e w6 ⟨rfl, b6⟩
    have B6 := B2.trans ((B5.trans (b6.mono B5.size)).mono B2.size)
    have a6 := a0.below B6
    have b6' := b0.below B6
    have c6' := c0.below B6
    clear r4 r5 r6 r7 r8 b1 b2 b3 b4 b5 b6 B2 B5 a1 a2 b2' c2'
    go_wp2_with fail
    refine (mulS a6 b6' (by omega)).mono ?_
    rintro e w7 ⟨A9, n9, c9, rfl, r9, b7⟩
    go_wp2_with fail
    refine (mulS (b6'.below b7) (a6.below b7) (by omega)).mono ?_
    rintro e w8 ⟨A10, n10, c10, rfl, r10, b8⟩
    go_wp2_with fail
    refine (sameS (r9.below b8) r10 (Int.mul_comm _ _)).mono ?_
    rintro e w9 ⟨rfl, b9⟩
    have B9 := B6.trans ((b7.trans ((b8.trans (b9.mono b8.size)).mono b7.size)).mono B6.size)
    have a9 := a0.below B9
    have b9' := b0.below B9
    have c9' := c0.below B9
    clear r9 r10 b7 b8 b9 a6 b6' c6' B6
    go_wp2_with fail
    refine (prodS a9 b9' c9' (by omega)).mono ?_
    rintro e w10 ⟨A11, n11, c11, rfl, r11, b10⟩
    go_wp2_with fail
    refine (prodS (c9'.below b10) (a9.below b10) (b9'.below b10) (by omega)).mono ?_
    rintro e w11 ⟨A12, n12, c12, rfl, r12, b11⟩
    go_wp2_with fail
    refine (sameS (r11.below b11) r12 (by rw [Int.mul_comm d a, Int.mul_assoc, Int.mul_assoc, Int.mul_comm d b])).mono ?_
    rintro e w12 ⟨rfl, b12⟩
    have B12 := B9.trans ((b10.trans ((b11.trans (b12.mono b11.size)).mono b10.size)).mono B9.size)
    have a12 := a0.below B12
    have b12' := b0.below B12
    have E12 := HE.out.below B12
    clear r11 r12 b10 b11 b12 a9 b9' c9' B9
    rcases (show b = 0 ∨ 0 < b by have := b0.bound; omega) with hb0 | hbp
    · subst hb0
      have HD := Lib.hid (div0 a12 b12' E12 (by omega))
      clear E12
      go_wp2_with fail
      refine HD.out.mono ?_
      rintro e w13 ⟨rfl, b13⟩
      have B13 := B12.trans (b13.mono B12.size)
      have HBi := Lib.hid (bitsS (b0.below B13) (HE.out.below B13) (by omega))
      clear HD a12 b12' B12 b13
      go_wp2_with fail
      refine HBi.out.mono ?_
      rintro e w' ⟨⟨bb, hbb, rfl⟩, rfl⟩
      obtain rfl : bb = 0 := by simpa using hbb
      have HG := Lib.hid (gcdS (a0.below B13) (b0.below B13) (HE.out.below B13) (by omega))
      clear hbb HBi
      go_wp2_with fail
      refine HG.out.mono ?_
      rintro e w14 ⟨A13, n13, c13, rfl, r13, b14⟩
      have B14 := B13.trans (b14.mono B13.size)
      have HTr := Lib.hid (trimS (a0.below B14) (by omega))
      clear HG
      go_wp2_with fail
      refine HTr.out.mono ?_
      rintro e w15 ⟨A14, n14, c14, rfl, r14, b15⟩
      have HS := Lib.hid (sameS (r13.below b15) r14 (gcdI_zero a0.bound.1))
      have B15 := B14.trans (b15.mono B14.size)
      clear HTr r13 r14 b14 b15 B13 B14
      go_wp2_with fail
      refine HS.out.mono ?_
      rintro e w16 ⟨rfl, b16⟩
      have B16 := Lib.hid (B15.trans (b16.mono B15.size))
      have HW2 := Lib.hid (works_any w16 (HE.out.below B16.out))
      clear HS B15 b16
      go_wp2_with fail
      refine HW2.out.mono ?_
      rintro e w17 ⟨rfl, b17⟩
      have B17 := Lib.hid (B16.out.trans (b17.mono B16.out.size))
      clear b17 HW2
      go_wp2_with fail
      go_ret
      exact ⟨rfl, B17.out⟩
    · have HD := Lib.hid (divS a12 b12' E12 (by omega) hbp)
      have hpar := Lib.hid (gcdI_parts a0.bound.1 hbp)
      have HM := Lib.hid (Int.ediv_mul_add_emod a b)
      have HLt := Lib.hid (Int.emod_lt_of_pos a hbp)
      clear E12
      go_wp2_with fail
      refine HD.out.mono ?_
      rintro e w13 ⟨A13, n13, c13, A14, n14, c14, rfl, rq, rr, b13⟩
      have B13 := B12.trans (b13.mono B12.size)
      have HBi := Lib.hid (bitsS (b0.below B13) (HE.out.below B13) (by omega))
      clear HD a12 b12' B12 b13
      go_wp2_with fail
      refine HBi.out.mono ?_
      rintro e w' ⟨⟨bb, hbb, rfl⟩, rfl⟩
      have hbb0 : ((bb : Int) == 0) = false := beq_eq_false_iff_ne.2 (by omega)
      have H1 := Lib.hid (mulS rq.rd (b0.below B13) (by omega))
      clear hbb HBi
      go_wp2_with fail
      refine H1.out.mono ?_
      rintro e w14 ⟨A15, n15, c15, rfl, r15, b14⟩
      have B14 := B13.trans (b14.mono B13.size)
      have rr14 := rr.below b14
      have H2 := Lib.hid (addS (M := 80) r15.rd (show RdS w14 80 _ A14 n14 c14 by obtain ⟨ys, d, v, s, l⟩ := rr14.rd; exact ⟨ys, d, v, s, by omega⟩) (by omega))
      clear H1 r15 b14 rq
      go_wp2_with fail
      refine H2.out.mono ?_
      rintro e w15 ⟨A16, n16, c16, rfl, r16, b15⟩
      have B15 := B14.trans (b15.mono B14.size)
      have rr15 := rr14.below b15
      have H3 := Lib.hid (trimS (a0.below B15) (by omega))
      clear H2 b15 rr rr14 B14
      go_wp2_with fail
      refine H3.out.mono ?_
      rintro e w16 ⟨A17, n17, c17, rfl, r17, b16⟩
      have B16 := B15.trans (b16.mono B15.size)
      have rr16 := rr15.below b16
      have H4 := Lib.hid (sameS (r16.below b16) r17 HM.out)
      clear H3 b16 rr15 B15 r16 r17
      go_wp2_with fail
      refine H4.out.mono ?_
      rintro e w17 ⟨rfl, b17⟩
      have B17 := B16.trans (b17.mono B16.size)
      have H5 := Lib.hid (cmpS (rr16.below b17).rd (b0.below B17) HLt.out)
      clear H4 b17 rr16 B16
      go_wp2_with fail
      refine H5.out.mono ?_
      rintro e w18 ⟨rfl, b18⟩
      have B18 := B17.trans (b18.mono B17.size)
      have H6 := Lib.hid (gcdS (a0.below B18) (b0.below B18) (HE.out.below B18) (by omega))
      clear H5 b18 B17
      go_wp2_with fail
      refine H6.out.mono ?_
      rintro e w19 ⟨A18, n18, c18, rfl, rg, b19⟩
      have B19 := B18.trans (b19.mono B18.size)
      obtain ⟨g0, g1, g2, g3⟩ := hpar.out
      have HG := Lib.hid (And.intro g1 (And.intro g2 g3))
      have H7 := Lib.hid (divS (a0.below B19) rg.rd (HE.out.below B19) (by omega) g0)
      clear H6 b19 B18 g1 g2 g3 hpar B13
      go_wp2_with fail
      refine H7.out.mono ?_
      rintro e w20 ⟨A19, n19, c19, A20, n20, c20, rfl, rx, ry, b20⟩
      have B20 := B19.trans (b20.mono B19.size)
      have rg20 := rg.below b20
      have H8 := Lib.hid (divS (b0.below B20) rg20.rd (HE.out.below B20) (by omega) g0)
      clear H7 B19 rg
      go_wp2_with fail
      refine H8.out.mono ?_
      rintro e w21 ⟨A21, n21, c21, A22, n22, c22, rfl, ru, rv, b21⟩
      have B21 := B20.trans (b21.mono B20.size)
      have rg21 := rg20.below b21
      have rx21 := rx.below b21
      obtain rfl : n20 = 0 := by
        obtain ⟨ys, r, s, l⟩ := ry
        rw [HG.out.1] at r
        have := Tr.zero (β := 4294967296) (by decide) r.dg r.tr r.val
        rw [this] at s
        exact s.len.symm
      obtain rfl : n22 = 0 := by
        obtain ⟨ys, r, s, l⟩ := rv
        rw [HG.out.2.1] at r
        have := Tr.zero (β := 4294967296) (by decide) r.dg r.tr r.val
        rw [this] at s
        exact s.len.symm
      have H9 := Lib.hid (gcdS rx21.rd ru.rd (HE.out.below B21) (by omega))
      rw [HG.out.2.2] at H9
      clear H8 B20 rg20 rx ry ru rv rx21 b20 b21
      go_wp2_with fail
      refine H9.out.mono ?_
      rintro e w22 ⟨A23, n23, c23, rfl, r1, b22⟩
      have B22 := B21.trans (b22.mono B21.size)
      have rg22 := rg21.below b22
      have H10 := Lib.hid (sameS (M2 := 1) (r1.alloc (.cells #[.int .u32 1] 27)) (RwS.row (row1 (x := 1) rfl (by omega)) (lit1 w22 w22.heap.size rfl 1 27) (by rw [size_one]; exact Nat.le_refl _) (by decide)) rfl)
      clear H9 B21 rg21 r1 b22
      go_wp2_with fail
      refine H10.out.mono ?_
      rintro e w23 ⟨rfl, b23⟩
      have b23' := below_a1 b23
      have B23 := B22.trans (b23'.mono B22.size)
      have rg23 := rg22.below b23'
      have H11 := Lib.hid (gcdS (b0.below B23) (a0.below B23) (HE.out.below B23) (by omega))
      clear H10 B22 rg22 b23 b23'
      go_wp2_with fail
      refine H11.out.mono ?_
      rintro e w24 ⟨A24, n24, c24, rfl, rh, b24⟩
      have B24 := B23.trans (b24.mono B23.size)
      have H12 := Lib.hid (sameS (rg23.below b24) rh (gcdI_comm a b))
      clear H11 B23 rg23 b24 rh
      go_wp2_with fail
      refine H12.out.mono ?_
      rintro e w25 ⟨rfl, b25⟩
      have B25 := Lib.hid (B24.trans (b25.mono B24.size))
      have HW2 := Lib.hid (works_any w25 (HE.out.below B25.out))
      clear H12 B24 b25
      go_wp2_with fail
      refine HW2.out.mono ?_
      rintro e w26 ⟨rfl, b26⟩
      have B26 := Lib.hid (B25.out.trans (b26.mono B25.out.size))
      clear b26 HW2
      go_wp2_with fail
      go_ret
      exact ⟨rfl, B26.out⟩
  · go_enter Tryz.func26, Tryz.ntmps26
    have h3 : 40 < n ∨ (¬ 40 < n ∧ 40 < m) ∨ (¬ 40 < n ∧ ¬ 40 < m ∧ 40 < k) := by omega
    rcases h3 with h | ⟨h1, h2⟩ | ⟨h1, h2, h3⟩
    case' inl => have i1 : 40 < (n : Int) := by omega
    case' inr.inl =>
      have i1 : ¬ 40 < (n : Int) := by omega
      have i2 : 40 < (m : Int) := by omega
    case' inr.inr =>
      have i1 : ¬ 40 < (n : Int) := by omega
      have i2 : ¬ 40 < (m : Int) := by omega
      have i3 : 40 < (k : Int) := by omega
    all_goals
      clear hE HE hs ht hu
      go_wp2_with fail
      refine hW.out.mono ?_
      rintro e w1 ⟨rfl, b1⟩
      have B1 := Lib.hid b1
      clear b1
      go_wp2_with fail
      go_ret
      exact ⟨rfl, B1.out⟩
end Go.Proofs.YthicpakanhhipaaGreatDoor
