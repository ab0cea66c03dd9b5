/- tallagelaw02: NatDivMod: it returns true, whatever the rows are. -/
import Derived.Test.YthicpakanhhipaaGreatDoorNLawD
namespace Go.Proofs.YthicpakanhhipaaGreatDoor
open Go Go.RowKit

section
variable {w w' : World} {M M2 : Nat} {N K : Int} {A A2 : Option Addr} {n c m c2 : Nat}
theorem RwB.none_ (M : Nat) : RwB w M 0 none 0 0 := ⟨[], ⟨Dg.nil, Tr.nil, rfl⟩, Sl.nil, Nat.zero_le _⟩
theorem RwS.none_ (M : Nat) : RwS w M 0 none 0 0 := ⟨[], ⟨Dg.nil, Tr.nil, rfl⟩, Sl.nil, Nat.zero_le _⟩
theorem RwB.zero (h : RwB w M 0 A n c) : n = 0 := by
  obtain ⟨ys, r, s, l⟩ := h
  obtain rfl := r.uniq (by decide) (ys := []) ⟨Dg.nil, Tr.nil, rfl⟩
  exact s.len.symm
theorem RwB.pos (h : RwB w M N A n c) (h0 : 0 < N) : 0 < n := by
  obtain ⟨ys, r, s, l⟩ := h
  rcases Nat.eq_zero_or_pos n with rfl | h
  · have := List.eq_nil_of_length_eq_zero s.len
    subst this
    have := r.val
    simp [val] at this
    omega
  · exact h
theorem RwB.wide (h : RwB w M N A n c) (hM : M ≤ M2) : RwB w M2 N A n c := by obtain ⟨ys, r, s, l⟩ := h; exact ⟨ys, r, s, by omega⟩
theorem bgcdB (h1 : RwB w M N A n c) (h2 : RwB w M K A2 m c2) (hM : M ≤ 1000000) : Calls Tryz.prog 16 #[.slice A n c, .slice A2 m c2] w fun e w' => ∃ A n c, e = .returned (.slice A n c) ∧ RwB w' M (gcdI N K) A n c ∧ Below w.heap.size w w' := by
  have b1 := h1.bound
  have b2 := h2.bound
  obtain ⟨xs, r1, s1, l1⟩ := h1
  obtain ⟨ys, r2, s2, l2⟩ := h2
  refine (bgcd_any s1 s2 (Nat.le_refl _) r1.dg r2.dg (by omega) (by omega)).mono fun e w' h => ?_
  rw [r1.val, r2.val] at h
  refine h.rb ?_
  rcases (show N = 0 ∨ 0 < N by omega) with h | h
  · rw [h, gcd0 b2.1]; exact b2.2
  · have := gcdI_le (a := N) (b := K) h; omega
theorem bdivB (h1 : RwB w M N A n c) (h2 : RwB w M2 K A2 m c2) (hM : M ≤ 1000000 ∧ M2 ≤ 1000000) (hK : 0 < K) : Calls Tryz.prog 19 #[.slice A n c, .slice A2 m c2] w fun e w' =>
    ∃ A n c A2 n2 c2, e = .returned (.tuple #[.slice A n c, .slice A2 n2 c2]) ∧ RwB w' M (N / K) A n c ∧ RwB w' M2 (N % K) A2 n2 c2 ∧ Below w.heap.size w w' := by
  have b1 := h1.bound
  have b2 := h2.bound
  obtain ⟨xs, r1, s1, l1⟩ := h1
  obtain ⟨ys, r2, s2, l2⟩ := h2
  refine (bdivmod_any s1 s2 (Nat.le_refl _) r1.dg r2.dg (by omega) (by omega) (by rw [r2.val]; exact hK)).mono fun e w' h => ?_
  rw [r1.val, r2.val] at h
  obtain ⟨qs, rs, A1, n1, c1, A2, n2, c2, rfl, rq, rr, sq, sr, b⟩ := h
  have q1 : N / K ≤ N := Int.ediv_le_self K b1.1
  have e1 := Int.emod_lt_of_pos N hK
  exact ⟨A1, n1, c1, A2, n2, c2, rfl, ⟨qs, rq, sq, by rw [← sq.len]; exact rq.len_le (by decide) (by omega)⟩, ⟨rs, rr, sr, by rw [← sr.len]; exact rr.len_le (by decide) (by omega)⟩, b⟩
end

set_option maxRecDepth 20000 in
set_option maxHeartbeats 8000000 in
theorem NatDivMod_any {w : World} {B : Nat} {A A2 A3 : Option Addr} {n c m c2 k c3 : Nat} {xs ys : List Int} {xss : List (List Int)} (hs : Sl .u32 w B A n c xs) (ht : Sl .u32 w B A2 m c2 ys) (hu : SlS w B A3 k c3 xss) (hB : B ≤ w.heap.size)
    (hx : Dg 4294967296 xs) (hy : Dg 4294967296 ys) (hz : ∀ zs ∈ xss, Dg 4294967296 zs) (hE : Env w) :
    Calls Tryz.prog 4 #[.slice A n c, .slice A2 m c2, .slice A3 k c3] w fun e w' => e = .returned (.bool true) ∧ Below w.heap.size w w' := by
  have hW := Lib.hid (works_any w hE)
  have HE := Lib.hid hE
  by_cases hbig : n ≤ 16 ∧ m ≤ 16 ∧ k ≤ 4
  · obtain ⟨l1, l2, l3⟩ := hbig
    have i1 : ¬ 16 < (n : Int) := by omega
    have i2 : ¬ 16 < (m : Int) := by omega
    have i3 : ¬ 4 < (k : Int) := by omega
    have a0 := hs.more hB
    have b0 := ht.more hB
    have u0 := hu.more hB
    have hul := hu.1
    clear hs ht hu hE
    go_enter Tryz.func4, Tryz.ntmps4
    go_wp2_with fail
    go_loopw [7, 8] (fun av iv wr => ∃ (i : Nat) (A5 : Option Addr) (n5 c5 : Nat), i ≤ k ∧ iv = .int .i64 i ∧ av = .slice A5 n5 c5 ∧ RwB wr 256 (gcdL 0 (xss.take i)) A5 n5 c5 ∧ Short xss i 8 ∧ Below w.heap.size w wr) (fun _ iv _ => k - (intOf iv).toNat)
    case atStart => exact ⟨0, none, 0, 0, Nat.zero_le _, rfl, rfl, RwB.none_ _, Short.zero, Below.refl _ _⟩
    case round =>
      obtain ⟨i, A5, n5, c5, hi, rfl, rfl, r5, hsh, br⟩ := hrel
      by_cases hlt : i < k
      · obtain ⟨b, off, zs, A6, n6, c6, rfl, hbB, ez, hc, s6⟩ := (u0.up br).at_ hlt
        have hzl := s6.len
        have hzd := hz zs (List.mem_of_getElem? ez)
        have HB := Lib.hid br
        have hik : (i : Int) < (k : Int) := by omega
        by_cases h8 : n6 ≤ 8
        · have i4 : ¬ 8 < (n6 : Int) := by omega
          have H1 := Lib.hid (bitsB s6 (Nat.le_refl _) hzd h8 (by omega))
          have HS := Lib.hid (show gcdL 0 (xss.take (i + 1)) = gcdI (gcdL 0 (xss.take i)) (val 4294967296 zs) by
            rw [List.take_add_one, ez]; exact gcdL_snoc _ _ _)
          have Hsh := Lib.hid (hsh.step ez (by omega))
          have R5 := Lib.hid r5
          clear br s6 hsh r5
          go_wp2_with fail
          refine H1.out.mono ?_
          rintro e w2 ⟨A7, n7, c7, rfl, r7, b2⟩
          have H2 := Lib.hid (bgcdB (R5.out.below b2) r7 (by omega))
          have B2 := Lib.hid (HB.out.trans (b2.mono HB.out.size))
          clear H1 R5 r7 b2
          go_wp2_with fail
          refine H2.out.mono ?_
          rintro e w3 ⟨A8, n8, c8, rfl, r8, b3⟩
          rw [← HS.out] at r8
          have B3 := Lib.hid (B2.out.trans (b3.mono B2.out.size))
          have R8 := Lib.hid r8
          clear H2 r8 b3 B2
          go_wp2_with fail
          go_roundw
          case rel => exact ⟨i + 1, A8, n8, c8, by omega, by go_num, rfl, R8.out, Hsh.out, B3.out⟩
          case measure => simp [intOf] <;> omega
        · have i4 : 8 < (n6 : Int) := by omega
          have HW2 := Lib.hid (works_any wr (HE.out.below HB.out))
          clear br s6 hsh r5
          go_wp2_with fail
          refine HW2.out.mono ?_
          rintro e w2 ⟨rfl, b2⟩
          have B2 := Lib.hid (HB.out.trans (b2.mono HB.out.size))
          clear b2
          go_wp2_with fail
          go_ret
          exact ⟨rfl, B2.out⟩
      · obtain rfl : k = i := by omega
        rw [List.take_of_length_le (by omega)] at r5
        have hshort := Short.mem (by rw [hul]; exact hsh)
        have hzs : ∀ xs ∈ xss, Dg 4294967296 xs ∧ xs.length ≤ 8 := fun xs h => ⟨hz xs h, hshort xs h⟩
        have HP := Lib.hid (fun w' (hb : Below wr.heap.size wr w') (hE' : Env w') => Gcd_any (M := 8) ((u0.up br).up hb) (Nat.le_refl _) hE'.half hE'.hz hzs (by omega))
        have HPB := Lib.hid (gcdL_bound hzs).2
        have sa := a0.up br
        have sb := b0.up br
        have BR := Lib.hid br
        have ha : RdS wr 16 (val 4294967296 xs) A n c := ⟨xs, hx, rfl, sa, l1⟩
        have hb : RdS wr 16 (val 4294967296 ys) A2 m c2 := ⟨ys, hy, rfl, sb, l2⟩
        have VA := Lib.hid (show ∀ w', Below wr.heap.size wr w' → Calls Tryz.prog 8 #[.slice A n c] w' fun e w'' => ∃ A n c, e = .returned (.slice A n c) ∧ RwB w'' 512 (val 4294967296 xs) A n c ∧ Below w'.heap.size w' w'' from
          fun w' hb => bitsB (sa.up hb) (Nat.le_refl _) hx l1 (by omega))
        have VB := Lib.hid (show ∀ w', Below wr.heap.size wr w' → Calls Tryz.prog 8 #[.slice A2 m c2] w' fun e w'' => ∃ A n c, e = .returned (.slice A n c) ∧ RwB w'' 512 (val 4294967296 ys) A n c ∧ Below w'.heap.size w' w'' from
          fun w' hb => bitsB (sb.up hb) (Nat.le_refl _) hy l2 (by omega))
        generalize hva : val 4294967296 xs = va at *
        generalize hvb : val 4294967296 ys = vb at *
        have hvb0 := hb.bound.1
        clear br u0 a0 b0 hsh hshort hzs hva hvb
        go_wp2_with fail
        refine (copied_any sa (Nat.le_refl _) (by omega)).mono ?_
        rintro e w1 ⟨Ax, nx, cx, rfl, ox, b1⟩
        have sb1 := sb.up b1
        go_wp2_with fail
        refine (copied_any sb1 (Nat.le_refl _) (by omega)).mono ?_
        rintro e w2 ⟨Ay, ny, cy, rfl, oy, b2⟩
        have B2 := b1.trans (b2.mono b1.size)
        have sx2 := (ox.below b2).sl
        have sy2 := oy.sl
        have sa2 := sa.up B2
        have sb2 := sb1.up b2
        have r2 := r5.below B2
        have ha2 := ha.below B2
        have hb2 := hb.below B2
        have BW2 := BR.out.trans (B2.mono BR.out.size)
        clear sb1 ox oy b1 b2 r5 sa sb ha hb hx hy
        rcases (show vb = 0 ∨ 0 < vb by omega) with hv0 | hvp
        · subst hv0
          have HD := Lib.hid (div0 ha2 hb2 (HE.out.below BW2) (by omega))
          clear ha2 hb2 BW2
          go_wp2_with fail
          refine HD.out.mono ?_
          rintro e w3 ⟨rfl, b3⟩
          have B3 := B2.trans (b3.mono B2.size)
          have H1 := Lib.hid (HP.out w3 B3 (HE.out.below (BR.out.trans (B3.mono BR.out.size))))
          have sx3 := sx2.up b3
          have sy3 := sy2.up b3
          have sa3 := sa2.up b3
          have sb3 := sb2.up b3
          have r3 := r2.below b3
          clear HD HP B2 sx2 sy2 sa2 sb2 r2 b3
          go_wp2_with fail
          refine H1.out.mono ?_
          rintro e w4 h4
          obtain ⟨A4, n4, c4, rfl, r4, b4⟩ := h4.rw HPB.out
          have B4 := B3.trans (b4.mono B3.size)
          have H2 := Lib.hid (isB r4 (r3.below b4) (by omega) rfl)
          have H3 := Lib.hid (fun w' (hb : Below w4.heap.size w4 w') => same_b ((sa3.up b4).up hb) ((sx3.up b4).up hb))
          have H4 := Lib.hid (fun w' (hb : Below w4.heap.size w4 w') => same_b ((sb3.up b4).up hb) ((sy3.up b4).up hb))
          clear h4 H1 B3 b4 sa3 sb3 sx3 sy3 r3 r4 HPB
          go_wp2_with fail
          refine H2.out.mono ?_
          rintro e w5 ⟨rfl, b5⟩
          have H3' := Lib.hid (H3.out w5 b5)
          clear H2 H3
          go_wp2_with fail
          refine H3'.out.mono ?_
          rintro e w6 ⟨rfl, b6⟩
          have b46 := b5.trans (b6.mono b5.size)
          have H4' := Lib.hid (H4.out w6 b46)
          clear H3' H4 b5 b6
          go_wp2_with fail
          refine H4'.out.mono ?_
          rintro e w7 ⟨rfl, b7⟩
          have b47 := b46.trans (b7.mono b46.size)
          have B7 := B4.trans (b47.mono B4.size)
          have H5 := Lib.hid (VB.out w7 B7)
          clear H4' b46 b7 b47 B4 VA VB
          go_wp2_with fail
          refine H5.out.mono ?_
          rintro e w8 ⟨A8, n8, c8, rfl, r8, b8⟩
          obtain rfl := r8.zero
          have B8 := Lib.hid (BR.out.trans ((B7.trans (b8.mono B7.size)).mono BR.out.size))
          have HW2 := Lib.hid (works_any w8 (HE.out.below B8.out))
          clear H5 B7 b8 r8
          go_wp2_with fail
          refine HW2.out.mono ?_
          rintro e w9 ⟨rfl, b9⟩
          have B9 := Lib.hid (B8.out.trans (b9.mono B8.out.size))
          clear b9 HW2
          go_wp2_with fail
          go_ret
          exact ⟨rfl, B9.out⟩
        · have HD := Lib.hid (divS ha2 hb2 (HE.out.below BW2) (by omega) hvp)
          clear ha2 hb2 BW2
          go_wp2_with fail
          refine HD.out.mono ?_
          rintro e w3 ⟨Aq, nq, cq, Ar, nr, cr, rfl, rq3, rr3, b3⟩
          have B3 := B2.trans (b3.mono B2.size)
          have H1 := Lib.hid (HP.out w3 B3 (HE.out.below (BR.out.trans (B3.mono BR.out.size))))
          have sx3 := sx2.up b3
          have sy3 := sy2.up b3
          have sa3 := sa2.up b3
          have sb3 := sb2.up b3
          have r3 := r2.below b3
          clear HD HP B2 sx2 sy2 sa2 sb2 r2 b3
          go_wp2_with fail
          refine H1.out.mono ?_
          rintro e w4 h4
          obtain ⟨A4, n4, c4, rfl, r4, b4⟩ := h4.rw HPB.out
          have B4 := B3.trans (b4.mono B3.size)
          have H2 := Lib.hid (isB r4 (r3.below b4) (by omega) rfl)
          have H3 := Lib.hid (fun w' (hb : Below w4.heap.size w4 w') => same_b ((sa3.up b4).up hb) ((sx3.up b4).up hb))
          have H4 := Lib.hid (fun w' (hb : Below w4.heap.size w4 w') => same_b ((sb3.up b4).up hb) ((sy3.up b4).up hb))
          have rq4 := rq3.below b4
          have rr4 := rr3.below b4
          clear h4 H1 B3 b4 sa3 sb3 sx3 sy3 r3 r4 HPB rq3 rr3
          go_wp2_with fail
          refine H2.out.mono ?_
          rintro e w5 ⟨rfl, b5⟩
          have H3' := Lib.hid (H3.out w5 b5)
          clear H2 H3
          go_wp2_with fail
          refine H3'.out.mono ?_
          rintro e w6 ⟨rfl, b6⟩
          have b46 := b5.trans (b6.mono b5.size)
          have H4' := Lib.hid (H4.out w6 b46)
          clear H3' H4 b5 b6
          go_wp2_with fail
          refine H4'.out.mono ?_
          rintro e w7 ⟨rfl, b7⟩
          have b47 := b46.trans (b7.mono b46.size)
          have B7 := B4.trans (b47.mono B4.size)
          have H5 := Lib.hid (VB.out w7 B7)
          have rq7 := rq4.below b47
          have rr7 := rr4.below b47
          clear H4' b46 b7 b47 B4 rq4 rr4
          go_wp2_with fail
          refine H5.out.mono ?_
          rintro e w8 ⟨A8, n8, c8, rfl, r8, b8⟩
          have hn8 := r8.pos hvp
          have hne : ((n8 : Int) == 0) = false := beq_eq_false_iff_ne.2 (by omega)
          have B8 := B7.trans (b8.mono B7.size)
          have H6 := Lib.hid (VA.out w8 B8)
          have rq8 := rq7.below b8
          have rr8 := rr7.below b8
          clear H5 B7 b8 rq7 rr7 r8 VA
          go_wp2_with fail
          refine H6.out.mono ?_
          rintro e w9 ⟨A9, n9, c9, rfl, r9, b9⟩
          have B9 := B8.trans (b9.mono B8.size)
          have H7 := Lib.hid (VB.out w9 B9)
          have rq9 := rq8.below b9
          have rr9 := rr8.below b9
          clear H6 B8 b9 rq8 rr8 VB
          go_wp2_with fail
          refine H7.out.mono ?_
          rintro e w10 ⟨A10, n10, c10, rfl, r10, b10⟩
          have B10 := B9.trans (b10.mono B9.size)
          have H8 := Lib.hid (bdivB (r9.below b10) r10 (by omega) hvp)
          have rq10 := rq9.below b10
          have rr10 := rr9.below b10
          clear H7 B9 b10 rq9 rr9 r9 r10
          go_wp2_with fail
          refine H8.out.mono ?_
          rintro e w11 ⟨A11, n11, c11, A12, n12, c12, rfl, r11, r12, b11⟩
          have B11 := B10.trans (b11.mono B10.size)
          have H9 := Lib.hid (isB (rq10.below b11) r11 (by omega) rfl)
          have rr11 := rr10.below b11
          clear H8 B10 b11 rq10 rr10 r11
          go_wp2_with fail
          refine H9.out.mono ?_
          rintro e w13 ⟨rfl, b13⟩
          have B13 := B11.trans (b13.mono B11.size)
          have H10 := Lib.hid (isB (rr11.below b13) (r12.below b13) (by omega) rfl)
          clear H9 B11 b13 rr11 r12
          go_wp2_with fail
          refine H10.out.mono ?_
          rintro e w14 ⟨rfl, b14⟩
          have B14 := Lib.hid (BR.out.trans ((B13.trans (b14.mono B13.size)).mono BR.out.size))
          have HW2 := Lib.hid (works_any w14 (HE.out.below B14.out))
          clear H10 B13 b14
          go_wp2_with fail
          refine HW2.out.mono ?_
          rintro e w15 ⟨rfl, b15⟩
          have B15 := Lib.hid (B14.out.trans (b15.mono B14.out.size))
          clear b15 HW2
          go_wp2_with fail
          go_ret
          exact ⟨rfl, B15.out⟩
  · go_enter Tryz.func4, Tryz.ntmps4
    have h3 : 16 < n ∨ (¬ 16 < n ∧ 16 < m) ∨ (¬ 16 < n ∧ ¬ 16 < m ∧ 4 < k) := by omega
    rcases h3 with h | ⟨h1, h2⟩ | ⟨h1, h2, h3⟩
    case' inl => have i1 : 16 < (n : Int) := by omega
    case' inr.inl =>
      have i1 : ¬ 16 < (n : Int) := by omega
      have i2 : 16 < (m : Int) := by omega
    case' inr.inr =>
      have i1 : ¬ 16 < (n : Int) := by omega
      have i2 : ¬ 16 < (m : Int) := by omega
      have i3 : 4 < (k : Int) := by omega
    all_goals
      clear hE HE hs ht hu
      go_wp2_with fail
      refine hW.out.mono ?_
      rintro e w1 ⟨rfl, b1⟩
      have B1 := Lib.hid b1
      clear b1
      go_wp2_with fail
      go_ret
      exact ⟨rfl, B1.out⟩
end Go.Proofs.YthicpakanhhipaaGreatDoor
