/- tallagelaw02: NatMul: it returns true, whatever the rows are. -/
import Derived.Test.YthicpakanhhipaaGreatDoorNLawS
import Derived.Test.YthicpakanhhipaaGreatDoorNRefC
namespace Go.Proofs.YthicpakanhhipaaGreatDoor
open Go Go.RowKit

/-- A row of binary digits that counts N, trimmed, of at most M digits. -/
def RwB (w : World) (M : Nat) (N : Int) (A : Option Addr) (n c : Nat) : Prop := ∃ ys, Row 2 N ys ∧ Sl .u8 w w.heap.size A n c ys ∧ n ≤ M
section
variable {w w' : World} {M M2 : Nat} {N K : Int} {A A2 : Option Addr} {n c m c2 : Nat}
theorem RwB.below (h : RwB w M N A n c) (hb : Below w.heap.size w w') : RwB w' M N A n c := by
  obtain ⟨ys, r, s, l⟩ := h; exact ⟨ys, r, (s.below hb (Nat.le_refl _)).more hb.size, l⟩
theorem RwB.bound (h : RwB w M N A n c) : 0 ≤ N ∧ N < 2 ^ M := by
  obtain ⟨ys, r, s, l⟩ := h
  have h0 := val_nonneg (β := 2) (by decide) r.dg
  have h1 := val_lt (β := 2) (by decide) r.dg
  rw [r.val] at h0 h1
  rw [s.len] at h1
  have := pow_mono (show (0 : Int) < 2 by decide) l
  omega
theorem Seen.rb {e : Ending} (h : Seen .u8 2 w N e w') (hN : N < 2 ^ M) : ∃ A n c, e = .returned (.slice A n c) ∧ RwB w' M N A n c ∧ Below w.heap.size w w' := by
  obtain ⟨ys, A, n, c, rfl, r, s, b⟩ := h
  refine ⟨A, n, c, rfl, ⟨ys, r, s, ?_⟩, b⟩
  rw [← s.len]
  exact r.len_le (by decide) hN
theorem Sl.up {k : IntKind} {xs : List Int} (h : Sl k w w.heap.size A n c xs) (hb : Below w.heap.size w w') : Sl k w' w'.heap.size A n c xs := (h.below hb (Nat.le_refl _)).more hb.size
theorem SlS.up {xss : List (List Int)} (h : SlS w w.heap.size A n c xss) (hb : Below w.heap.size w w') : SlS w' w'.heap.size A n c xss := (h.below hb (Nat.le_refl _)).more hb.size
theorem bitsB {B : Nat} {xs : List Int} (hs : Sl .u32 w B A n c xs) (hB : B ≤ w.heap.size) (hx : Dg 4294967296 xs) (hn : n ≤ M) (hM : M ≤ 100000) : Calls Tryz.prog 8 #[.slice A n c] w fun e w' => ∃ A n c, e = .returned (.slice A n c) ∧ RwB w' (32 * M) (val 4294967296 xs) A n c ∧ Below w.heap.size w w' := by
  refine (bits_any hs hB hx (by omega)).mono fun e w' h => h.rb ?_
  have h1 := val_lt (β := 4294967296) (by decide) hx
  rw [hs.len] at h1
  have := pow_mono (show (0 : Int) < 4294967296 by decide) hn
  rw [Int.pow_mul]
  exact Int.lt_of_lt_of_le h1 this
theorem bmulB (h1 : RwB w M N A n c) (h2 : RwB w M2 K A2 m c2) (hM : M ≤ 1000000 ∧ M2 ≤ 1000000) : Calls Tryz.prog 9 #[.slice A n c, .slice A2 m c2] w fun e w' => ∃ A n c, e = .returned (.slice A n c) ∧ RwB w' (M + M2) (N * K) A n c ∧ Below w.heap.size w w' := by
  have hp := mul_lt h1.bound.1 h1.bound.2 h2.bound.1 h2.bound.2
  obtain ⟨xs, r1, s1, l1⟩ := h1
  obtain ⟨ys, r2, s2, l2⟩ := h2
  refine (bmul_any s1 s2 (Nat.le_refl _) r1.dg r2.dg (by omega) (by omega)).mono fun e w' h => ?_
  rw [r1.val, r2.val] at h
  exact h.rb hp
theorem isB (h1 : RwS w M N A n c) (h2 : RwB w M2 K A2 m c2) (hM : M2 ≤ 1000000) (e : N = K) : Calls Tryz.prog 13 #[.slice A n c, .slice A2 m c2] w fun e w' => e = .returned (.bool true) ∧ Below w.heap.size w w' := by
  obtain ⟨xs, r1, s1, l1⟩ := h1
  obtain ⟨ys, r2, s2, l2⟩ := h2
  exact is_any s1 s2 (Nat.le_refl _) (Nat.le_refl _) r1 r2 (by omega) e
/-- What is owned is read. -/
theorem Own.rw {B : Nat} {ys : List Int} (h : Own .u32 27 w B A n c ys) (r : Row 4294967296 N ys) (hl : n ≤ M) : RwS w M N A n c := ⟨ys, r, h.sl, hl⟩
end

/-- The rows ahead of row i are short. -/
def Short (xss : List (List Int)) (i L : Nat) : Prop := ∀ j xs, j < i → xss[j]? = some xs → xs.length ≤ L
theorem Short.zero {xss : List (List Int)} {L : Nat} : Short xss 0 L := fun j xs hj => by omega
theorem Short.step {xss : List (List Int)} {i L : Nat} {xs : List Int} (h : Short xss i L) (ex : xss[i]? = some xs) (hl : xs.length ≤ L) : Short xss (i + 1) L := by
  intro j ys hj hy
  by_cases hji : j = i
  · subst hji; rw [ex] at hy; injection hy with hy; subst hy; exact hl
  · exact h j ys (by omega) hy
theorem Short.mem {xss : List (List Int)} {L : Nat} (h : Short xss xss.length L) : ∀ xs ∈ xss, xs.length ≤ L := by
  intro xs hx
  obtain ⟨j, hj⟩ := List.mem_iff_getElem?.1 hx
  exact h j xs (List.getElem?_eq_some_iff.1 hj).1 hj
theorem totl_le {L : Nat} : ∀ {xss : List (List Int)}, (∀ xs ∈ xss, xs.length ≤ L) → totl xss ≤ L * xss.length
  | [], _ => by simp [totl]
  | xs :: l, h => by
    have := totl_le (xss := l) fun ys hy => h ys (by simp [hy])
    have := h xs (by simp)
    simp only [totl, List.length_cons, Nat.mul_add, Nat.mul_one]
    omega
theorem prodv_snoc {xss : List (List Int)} {i : Nat} {xs : List Int} (ex : xss[i]? = some xs) : prodv (xss.take (i + 1)) = prodv (xss.take i) * val 4294967296 xs := by
  rw [List.take_add_one, ex, prodv_append]
  simp [prodv]

set_option maxRecDepth 20000 in
set_option maxHeartbeats 8000000 in
theorem NatMul_any {w : World} {B : Nat} {A A2 A3 : Option Addr} {n c m c2 k c3 : Nat} {xs ys : List Int} {xss : List (List Int)} (hs : Sl .u32 w B A n c xs) (ht : Sl .u32 w B A2 m c2 ys) (hu : SlS w B A3 k c3 xss) (hB : B ≤ w.heap.size)
    (hx : Dg 4294967296 xs) (hy : Dg 4294967296 ys) (hz : ∀ zs ∈ xss, Dg 4294967296 zs) (hE : Env w) :
    Calls Tryz.prog 3 #[.slice A n c, .slice A2 m c2, .slice A3 k c3] w fun e w' => e = .returned (.bool true) ∧ Below w.heap.size w w' := by
  have hW := Lib.hid (works_any w hE)
  have HE := Lib.hid hE
  by_cases hbig : n ≤ 16 ∧ m ≤ 16 ∧ k ≤ 5
  · obtain ⟨l1, l2, l3⟩ := hbig
    have i1 : ¬ 16 < (n : Int) := by omega
    have i2 : ¬ 16 < (m : Int) := by omega
    have i3 : ¬ 5 < (k : Int) := by omega
    have a0 := hs.more hB
    have b0 := ht.more hB
    have u0 := hu.more hB
    have hul := hu.1
    have hB0 := Lib.hid (bitsB (lit1 w w.heap.size rfl 1 27) (by rw [size_one]; exact Nat.le_refl _) (dg1 (by omega)) (Nat.le_refl 1) (by omega))
    clear hs ht hu hE
    go_enter Tryz.func3, Tryz.ntmps3
    go_wp2_with fail
    refine hB0.out.mono ?_
    rintro e w1 ⟨A4, n4, c4, rfl, r4, b1⟩
    have e1 : val 4294967296 [1] = 1 := by decide
    rw [e1] at r4
    have B1 := below_a1 b1
    clear b1 hB0 e1
    go_wp2_with fail
    go_loopw [7, 8] (fun av iv wr => ∃ (i : Nat) (A5 : Option Addr) (n5 c5 : Nat), i ≤ k ∧ iv = .int .i64 i ∧ av = .slice A5 n5 c5 ∧ RwB wr (32 + 256 * i) (prodv (xss.take i)) A5 n5 c5 ∧ Short xss i 8 ∧ Below w.heap.size w wr) (fun _ iv _ => k - (intOf iv).toNat)
    case atStart => exact ⟨0, A4, n4, c4, Nat.zero_le _, rfl, rfl, r4, Short.zero, B1⟩
    case round =>
      obtain ⟨i, A5, n5, c5, hi, rfl, rfl, r5, hsh, br⟩ := hrel
      by_cases hlt : i < k
      · obtain ⟨b, off, zs, A6, n6, c6, rfl, hbB, ez, hc, s6⟩ := (u0.up br).at_ hlt
        have hzl := s6.len
        have hzd := hz zs (List.mem_of_getElem? ez)
        have HB := Lib.hid br
        have hik : (i : Int) < (k : Int) := by omega
        by_cases h8 : n6 ≤ 8
        · have i4 : ¬ 8 < (n6 : Int) := by omega
          have H1 := Lib.hid (bitsB s6 (Nat.le_refl _) hzd h8 (by omega))
          have HS := Lib.hid (prodv_snoc ez)
          have Hsh := Lib.hid (hsh.step ez (by omega))
          have R5 := Lib.hid r5
          clear br s6 hsh r5
          go_wp2_with fail
          refine H1.out.mono ?_
          rintro e w2 ⟨A7, n7, c7, rfl, r7, b2⟩
          have H2 := Lib.hid (bmulB (R5.out.below b2) r7 (by omega))
          have B2 := Lib.hid (HB.out.trans (b2.mono HB.out.size))
          clear H1 R5 r7 b2
          go_wp2_with fail
          refine H2.out.mono ?_
          rintro e w3 ⟨A8, n8, c8, rfl, r8, b3⟩
          rw [← HS.out] at r8
          have B3 := Lib.hid (B2.out.trans (b3.mono B2.out.size))
          have R8 := Lib.hid (show RwB w3 (32 + 256 * (i + 1)) (prodv (xss.take (i + 1))) A8 n8 c8 by obtain ⟨ys, r, s, l⟩ := r8; exact ⟨ys, r, s, by omega⟩)
          clear H2 r8 b3 B2
          go_wp2_with fail
          go_roundw
          case rel => exact ⟨i + 1, A8, n8, c8, by omega, by go_num, rfl, R8.out, Hsh.out, B3.out⟩
          case measure => simp [intOf] <;> omega
        · have i4 : 8 < (n6 : Int) := by omega
          have HW2 := Lib.hid (works_any wr (HE.out.below HB.out))
          clear br s6 hsh r5
          go_wp2_with fail
          refine HW2.out.mono ?_
          rintro e w2 ⟨rfl, b2⟩
          have B2 := Lib.hid (HB.out.trans (b2.mono HB.out.size))
          clear b2
          go_wp2_with fail
          go_ret
          exact ⟨rfl, B2.out⟩
      · obtain rfl : k = i := by omega
        rw [List.take_of_length_le (by omega)] at r5
        have hshort := Short.mem (by rw [hul]; exact hsh)
        have htot := totl_le hshort
        rw [hul] at htot
        have HP : ∀ w', Below wr.heap.size wr w' → Calls Tryz.prog 12 #[.slice A3 k c3] w' (NewN w' (prodv xss)) := fun w' hb => Product_any ((u0.up br).up hb) (Nat.le_refl _) hz (by omega)
        have HPB := (prodv_bound hz).2
        have sa := a0.up br
        have sb := b0.up br
        have BR := Lib.hid br
        clear br u0 a0 b0 hsh r4 B1
        go_wp2_with fail
        refine (copied_any sa (Nat.le_refl _) (by omega)).mono ?_
        rintro e w1 ⟨Ax, nx, cx, rfl, ox, b1⟩
        have sb1 := sb.up b1
        go_wp2_with fail
        refine (copied_any sb1 (Nat.le_refl _) (by omega)).mono ?_
        rintro e w2 ⟨Ay, ny, cy, rfl, oy, b2⟩
        have B2 := b1.trans (b2.mono b1.size)
        have sx2 := (ox.below b2).sl
        have sy2 := oy.sl
        have sa2 := sa.up B2
        have sb2 := sb1.up b2
        have r2 := r5.below B2
        clear sb1 ox oy b1 b2 r5
        go_wp2_with fail
        refine (bitsB sa2 (Nat.le_refl _) hx l1 (by omega)).mono ?_
        rintro e w3 ⟨A7, n7, c7, rfl, r7, b3⟩
        have sb3 := sb2.up b3
        go_wp2_with fail
        refine (bitsB sb3 (Nat.le_refl _) hy l2 (by omega)).mono ?_
        rintro e w4 ⟨A8, n8, c8, rfl, r8, b4⟩
        have b34 := b3.trans (b4.mono b3.size)
        have r74 := r7.below b4
        clear sb3 r7
        go_wp2_with fail
        refine (bmulB r74 r8 (by omega)).mono ?_
        rintro e w5 ⟨A9, n9, c9, rfl, r9, b5⟩
        have b25 := b34.trans (b5.mono b34.size)
        have B5 := B2.trans (b25.mono B2.size)
        have sa5 := sa2.up b25
        have sb5 := sb2.up b25
        have sx5 := sx2.up b25
        have sy5 := sy2.up b25
        have r55 := r2.below b25
        have BR5 := Lib.hid (BR.out.trans (B5.mono BR.out.size))
        have HP5 := Lib.hid (fun w' (hb : Below w5.heap.size w5 w') => HP w' (B5.trans (hb.mono B5.size)))
        clear HP r74 r8 b34 b3 b4 b5 sa2 sb2 sx2 sy2 r2 sa sb b25 B5 B2 BR
        go_wp2_with fail
        go_loopw [12] (fun tv wt => ∃ t : Nat, t ≤ 2 ∧ tv = .int .i64 t ∧ Below w5.heap.size w5 wt) (fun tv _ => 2 - (intOf tv).toNat)
        case atStart => exact ⟨0, by omega, rfl, Below.refl _ _⟩
        case round =>
          obtain ⟨t, ht, rfl, bw⟩ := hrel
          by_cases htl : t < 2
          · have hti : (t : Int) < 2 := by omega
            have HM := Lib.hid (Mul_any (sa5.up bw) (sb5.up bw) (Nat.le_refl _) hx hy (by omega) (by omega))
            have BW := Lib.hid bw
            clear bw
            go_wp2_with fail
            refine HM.out.mono ?_
            rintro e w6 ⟨P, rP, Ap, np, cp, rfl, op, b6⟩
            have B6 := BW.out.trans (b6.mono BW.out.size)
            clear HM
            go_wp2_with fail
            refine (HP5.out w6 B6).mono ?_
            rintro e w7 ⟨Q, rQ, Aq, nq, cq, rfl, oq, b7⟩
            have hap := op.apart oq (Nat.le_refl _)
            have op7 := op.below b7
            have lP : np ≤ 32 := by
              rw [← op.len]
              refine rP.len_le (by decide) ?_
              exact pow_mul (M := 16) (M2 := 16) (show RdS w5 16 _ A n c from ⟨xs, hx, rfl, sa5, l1⟩).bound (show RdS w5 16 _ A2 m c2 from ⟨ys, hy, rfl, sb5, l2⟩).bound
            have lQ : nq ≤ totl xss + 1 := by
              rw [← oq.len]
              exact rQ.len_le (by decide) HPB
            have B7 := B6.trans (b7.mono B6.size)
            have H1 := Lib.hid (isB (op7.rw rP lP) (r9.below B7) (by omega) rfl)
            have oq7 := oq.lower b6.size
            have op7' := op7
            clear op oq b6 b7 B6 rP op7
            go_wp2_with fail
            refine H1.out.mono ?_
            rintro e w8 ⟨rfl, b8⟩
            have op8 := op7'.below b8
            have oq8 := oq7.below b8
            have B8 := B7.trans (b8.mono B7.size)
            have H2 := Lib.hid (isB (oq8.rw rQ lQ) (r55.below B8) (by omega) rfl)
            clear H1 op7' oq7 b8 B7 rQ
            go_wp2_with fail
            refine H2.out.mono ?_
            rintro e w9 ⟨rfl, b9⟩
            have op9 := op8.below b9
            have oq9 := oq8.below b9
            have B9 := B8.trans (b9.mono B8.size)
            have H3 := Lib.hid (same_b (sa5.up B9) (sx5.up B9))
            clear H2 op8 oq8 b9 B8
            go_wp2_with fail
            refine H3.out.mono ?_
            rintro e w10 ⟨rfl, b10⟩
            have op10 := op9.below b10
            have oq10 := oq9.below b10
            have B10 := B9.trans (b10.mono B9.size)
            have H4 := Lib.hid (same_b (sb5.up B10) (sy5.up B10))
            clear H3 op9 oq9 b10 B9
            go_wp2_with fail
            refine H4.out.mono ?_
            rintro e w11 ⟨rfl, b11⟩
            have op11 := op10.below b11
            have oq11 := oq10.below b11
            have B11 := B10.trans (b11.mono B10.size)
            clear H4 op10 oq10 b11 B10
            have hwz : w5.heap.size ≤ w11.heap.size := B11.size
            go_wp2_with fail
            refine (spoil_any ⟨_, op11⟩).mono ?_
            rintro e w12 ⟨rfl, g12⟩
            have oq12 := oq11.keep g12 hap
            have B12 := B11.trans (grown_below g12 B11.size (fun g h => Nat.le_trans BW.out.size (op11.blk_ g h).1))
            clear op11 oq11 g12 B11
            go_wp2_with fail
            refine (spoil_any ⟨_, oq12⟩).mono ?_
            rintro e w13 ⟨rfl, g13⟩
            have B13 := Lib.hid (B12.trans (grown_below g13 B12.size (fun g h => Nat.le_trans BW.out.size (oq12.blk_ g h).1)))
            clear oq12 g13 B12 hap
            go_wp2_with fail
            go_roundw
            case rel => exact ⟨t + 1, by omega, by go_num, B13.out⟩
            case measure => simp [intOf] <;> omega
          · have hti : ¬ (t : Int) < 2 := by omega
            have BW := Lib.hid (BR5.out.trans (bw.mono BR5.out.size))
            have HW2 := Lib.hid (works_any _ (HE.out.below BW.out))
            clear bw
            go_wp2_with fail
            refine HW2.out.mono ?_
            rintro e w6 ⟨rfl, b6⟩
            have B6 := Lib.hid (BW.out.trans (b6.mono BW.out.size))
            clear b6
            go_wp2_with fail
            go_ret
            exact ⟨rfl, B6.out⟩
  · go_enter Tryz.func3, Tryz.ntmps3
    have h3 : 16 < n ∨ (¬ 16 < n ∧ 16 < m) ∨ (¬ 16 < n ∧ ¬ 16 < m ∧ 5 < k) := by omega
    rcases h3 with h | ⟨h1, h2⟩ | ⟨h1, h2, h3⟩
    case' inl => have i1 : 16 < (n : Int) := by omega
    case' inr.inl =>
      have i1 : ¬ 16 < (n : Int) := by omega
      have i2 : 16 < (m : Int) := by omega
    case' inr.inr =>
      have i1 : ¬ 16 < (n : Int) := by omega
      have i2 : ¬ 16 < (m : Int) := by omega
      have i3 : 5 < (k : Int) := by omega
    all_goals
      clear hE HE hs ht hu
      go_wp2_with fail
      refine hW.out.mono ?_
      rintro e w1 ⟨rfl, b1⟩
      have B1 := Lib.hid b1
      clear b1
      go_wp2_with fail
      go_ret
      exact ⟨rfl, B1.out⟩
end Go.Proofs.YthicpakanhhipaaGreatDoor
