/- tallageref02: Mul, DivMod, Gcd, small, Pow: what each call answers. -/
import Derived.Test.YthicpakanhhipaaGreatDoorNRefB
import Derived.Test.YthicpakanhhipaaGreatDoorMathG
namespace Go.Proofs.YthicpakanhhipaaGreatDoor
open Go Go.RowKit

theorem mul_lt {a b : Int} {n m : Nat} (ha : 0 ≤ a) (ha1 : a < 2 ^ n) (hb : 0 ≤ b) (hb1 : b < 2 ^ m) : a * b < 2 ^ (n + m) := by
  rw [Int.pow_add]
  have h1 : a * b ≤ a * 2 ^ m := Int.mul_le_mul_of_nonneg_left (by omega) ha
  have h2 : a * 2 ^ m < 2 ^ n * 2 ^ m := Int.mul_lt_mul_of_pos_right ha1 (pow_pos' (by decide) m)
  omega
theorem val_drop {ys : List Int} {k : Nat} {y : Int} (ey : ys[k]? = some y) : val 2 (ys.drop k) = y + 2 * val 2 (ys.drop (k + 1)) := by
  rw [drop_of ey]; rfl

set_option maxHeartbeats 2000000 in
theorem bmul_any {w : World} {B : Nat} {A A2 : Option Addr} {n c m c2 : Nat} {xs ys : List Int} (hs : Sl .u8 w B A n c xs) (ht : Sl .u8 w B A2 m c2 ys) (hB : B ≤ w.heap.size) (hx : Dg 2 xs) (hy : Dg 2 ys) (hn : n ≤ 400000000) (hm : m ≤ 400000000) :
    Calls Tryz.prog 9 #[.slice A n c, .slice A2 m c2] w (Seen .u8 2 w (val 2 xs * val 2 ys)) := by
  have hvl := ht.len
  have V0 := Lib.hid (val_nonneg (β := 2) (by decide) hx)
  have V1 := Lib.hid (show val 2 xs < 2 ^ n by rw [← hs.len]; exact val_lt (by decide) hx)
  have hbd : ∀ k (O : List Int), Row 2 (val 2 xs * val 2 (ys.drop k)) O → O.length ≤ n + m := fun k O h => by
    refine h.len_le (by decide) (mul_lt V0.out V1.out (val_nonneg (by decide) (hy.drop k)) ?_)
    refine Int.lt_of_lt_of_le (val_lt (by decide) (hy.drop k)) (pow_mono (by decide) ?_)
    rw [List.length_drop]; omega
  have HBD := Lib.hid hbd
  clear hbd
  go_enter Tryz.func9, Tryz.ntmps9
  go_wp2_with fail
  go_loopw [5, 6] (fun ov iv wr => ∃ (k n3 c3 : Nat) (A3 : Option Addr) (O : List Int), k ≤ m ∧ iv = .int .i64 ((k : Int) - 1) ∧ ov = .slice A3 n3 c3 ∧ Sl .u8 wr wr.heap.size A3 n3 c3 O ∧ Below w.heap.size w wr ∧
      Row 2 (val 2 xs * val 2 (ys.drop k)) O) (fun _ iv _ => (intOf iv + 1).toNat)
  case atStart => exact ⟨m, 0, 0, none, [], Nat.le_refl _, rfl, rfl, Sl.nil, Below.refl _ _, ⟨Dg.nil, Tr.nil, by rw [List.drop_of_length_le (by omega)]; simp [val]⟩⟩
  case round =>
    obtain ⟨k, n3, c3, A3, O, hk, rfl, rfl, ho, hb, hr⟩ := hrel
    by_cases h0 : k = 0
    · subst h0
      rw [List.drop_zero] at hr
      have HR := Lib.hid hr
      clear hr
      go_wp2_with fail
      go_ret
      exact ⟨_, A3, n3, c3, rfl, HR.out, ho, hb⟩
    · obtain ⟨j, rfl⟩ : ∃ j, k = j + 1 := ⟨k - 1, by omega⟩
      obtain ⟨b, off, y, rfl, _, ey, _⟩ := ht.at_ (j := j) (by omega)
      have hyy := hy.get ey
      have hlen := HBD.out _ _ hr
      have hol := ho.len
      have hji : (j : Int) < (m : Int) := by omega
      have hd := hr.dg
      have hv := Lib.hid hr.val
      have hnx := Lib.hid (val_drop ey)
      clear hr
      go_wp2_with fail
      refine (bup_any ho (Nat.le_refl _) hd (by omega) (by omega)).mono ?_
      rintro e w1 ⟨O1, A4, n4, c4, rfl, hr1, ho1, b1⟩
      rw [hv.out, Int.zero_add] at hr1
      have hb1 := hb.trans (b1.mono hb.size)
      have ht1 := ht.below hb1 hB
      have hcell : w1.cell? ⟨b, off + j, none⟩ = some (.int .u8 y) := by
        obtain ⟨b', off', y', hA, _, ey', hc⟩ := ht1.at_ (j := j) (by omega)
        injection hA with hA
        injection hA with q1 q2
        subst q1; subst q2
        rw [ey] at ey'
        injection ey' with ey'
        subst ey'
        exact hc
      clear hb b1 ho hd hv
      rcases (show y = 0 ∨ y = 1 by omega) with rfl | rfl
      · have hr2 : Row 2 (val 2 xs * val 2 (ys.drop j)) O1 := by
          rw [hnx.out, Int.zero_add, Int.mul_left_comm]; exact hr1
        have HR2 := Lib.hid hr2
        clear hr2 hr1 hnx
        go_wp2_with fail
        go_roundw
        case rel => exact ⟨j, n4, c4, A4, O1, by omega, by simp, rfl, ho1, hb1, HR2.out⟩
        case measure => simp [intOf] <;> omega
      · have hr2 : ∀ O2, Row 2 (2 * (val 2 xs * val 2 (ys.drop (j + 1))) + val 2 xs) O2 → Row 2 (val 2 xs * val 2 (ys.drop j)) O2 := fun O2 h => by
          rw [hnx.out, Int.mul_add, Int.mul_one, Int.mul_left_comm, Int.add_comm]; exact h
        have HR2 := Lib.hid hr2
        have hd1 := hr1.dg
        have hv1 := Lib.hid hr1.val
        have hl1 : n4 ≤ n + m + 1 := by
          have h1 := val_nonneg (β := 2) (by decide) (hy.drop (j + 1))
          have h2 : val 2 xs * val 2 (ys.drop (j + 1)) < 2 ^ (n + m) := mul_lt V0.out V1.out h1 (Int.lt_of_lt_of_le (val_lt (by decide) (hy.drop (j + 1))) (pow_mono (by decide) (by rw [List.length_drop]; omega)))
          have := hr1.len_le (k := n + m + 1) (by decide) (by rw [Int.pow_succ]; omega)
          rw [ho1.len] at this
          exact this
        clear hr2 hr1 hnx
        go_wp2_with fail
        refine (badd_any ho1 ((hs.below hb1 hB).more (Nat.le_trans hB hb1.size)) (Nat.le_refl _) hd1 hx (by omega) (by omega)).mono ?_
        rintro e w2 ⟨O2, A5, n5, c5, rfl, hr3, ho2, b2⟩
        rw [hv1.out] at hr3
        have HR3 := Lib.hid (HR2.out _ hr3)
        have hb2 := hb1.trans (b2.mono hb1.size)
        clear hr3 HR2 hb1 b2 ho1 ht1 hcell hd1 hv1
        go_wp2_with fail
        go_roundw
        case rel => exact ⟨j, n5, c5, A5, O2, by omega, by simp, rfl, ho2, hb2, HR3.out⟩
        case measure => simp [intOf] <;> omega

/-- A quotient and what is left, read in whatever memory. -/
def SeenQ (w : World) (a b : Int) (e : Ending) (w' : World) : Prop :=
  ∃ qs rs A1 n1 c1 A2 n2 c2, e = .returned (.tuple #[.slice A1 n1 c1, .slice A2 n2 c2]) ∧ Row 2 (a / b) qs ∧ Row 2 (a % b) rs ∧ Sl .u8 w' w'.heap.size A1 n1 c1 qs ∧ Sl .u8 w' w'.heap.size A2 n2 c2 rs ∧ Below w.heap.size w w'
/-- Long division's rows behind digit k. -/
structure DivI (N D q r : Int) : Prop where
  sum : q * D + r = N
  q0 : 0 ≤ q
  r0 : 0 ≤ r
  r1 : r < D
theorem DivI.done {N D q r : Int} (h : DivI N D q r) : q = N / D ∧ r = N % D := by
  have hD : 0 < D := by have := h.r0; have := h.r1; omega
  have e : N = r + D * q := by rw [← h.sum, Int.mul_comm]; omega
  rw [e, Int.add_mul_ediv_left _ _ (by omega), Int.add_mul_emod_self_left, Int.ediv_eq_zero_of_lt h.r0 h.r1, Int.emod_eq_of_lt h.r0 h.r1]
  omega
theorem DivI.less {N D q r y : Int} (h : DivI N D q r) (hy : 0 ≤ y) (hl : y + 2 * r < D) : DivI (y + 2 * N) D (0 + 2 * q) (y + 2 * r) := by
  refine ⟨?_, by have := h.q0; omega, by have := h.r0; omega, hl⟩
  rw [← h.sum, Int.zero_add, Int.mul_assoc]; omega
theorem DivI.more {N D q r y : Int} (h : DivI N D q r) (hy : 0 ≤ y ∧ y < 2) (hl : D ≤ y + 2 * r) : DivI (y + 2 * N) D (1 + 2 * q) (y + 2 * r - D) := by
  refine ⟨?_, by have := h.q0; omega, by omega, by have := h.r1; omega⟩
  rw [← h.sum, Int.add_mul, Int.mul_assoc, Int.one_mul]; omega
theorem DivI.le {N D q r : Int} (h : DivI N D q r) : q ≤ N := by
  have h1 : q * 1 ≤ q * D := Int.mul_le_mul_of_nonneg_left (by have := h.r0; have := h.r1; omega) h.q0
  have := h.sum
  have := h.r0
  omega
theorem row_len {N : Int} {O : List Int} {k : Nat} (h : Row 2 N O) (hN : N < 2 ^ k) : O.length ≤ k := h.len_le (by decide) hN

set_option maxHeartbeats 2000000 in
theorem bdivmod_any {w : World} {B : Nat} {A A2 : Option Addr} {n c m c2 : Nat} {xs ys : List Int} (hs : Sl .u8 w B A n c xs) (ht : Sl .u8 w B A2 m c2 ys) (hB : B ≤ w.heap.size) (hx : Dg 2 xs) (hy : Dg 2 ys) (hn : n ≤ 400000000) (hm : m ≤ 400000000) (hp : 0 < val 2 ys) :
    Calls Tryz.prog 19 #[.slice A n c, .slice A2 m c2] w (SeenQ w (val 2 xs) (val 2 ys)) := by
  have hvl := hs.len
  have V1 := Lib.hid (show val 2 ys < 2 ^ m by rw [← ht.len]; exact val_lt (by decide) hy)
  have V2 := Lib.hid (show ∀ k, val 2 (xs.drop k) < 2 ^ n from fun k => Int.lt_of_lt_of_le (val_lt (by decide) (hx.drop k)) (pow_mono (by decide) (by rw [List.length_drop]; omega)))
  have HP := Lib.hid hp
  clear hp
  go_enter Tryz.func19, Tryz.ntmps19
  go_wp2_with fail
  go_loopw [6, 7, 8] (fun qv rv iv wr => ∃ (k n3 c3 n4 c4 : Nat) (A3 A4 : Option Addr) (Q R : List Int) (q r : Int), k ≤ n ∧ iv = .int .i64 ((k : Int) - 1) ∧ qv = .slice A3 n3 c3 ∧ rv = .slice A4 n4 c4 ∧ Sl .u8 wr wr.heap.size A3 n3 c3 Q ∧ Sl .u8 wr wr.heap.size A4 n4 c4 R ∧ Below w.heap.size w wr ∧
      Row 2 q Q ∧ Row 2 r R ∧ DivI (val 2 (xs.drop k)) (val 2 ys) q r) (fun _ _ iv _ => (intOf iv + 1).toNat)
  case atStart => exact ⟨n, 0, 0, 0, 0, none, none, [], [], 0, 0, Nat.le_refl _, rfl, rfl, rfl, Sl.nil, Sl.nil, Below.refl _ _, ⟨Dg.nil, Tr.nil, rfl⟩, ⟨Dg.nil, Tr.nil, rfl⟩, ⟨by rw [List.drop_of_length_le (by omega)]; simp [val], Int.le_refl _, Int.le_refl _, HP.out⟩⟩
  case round =>
    obtain ⟨k, n3, c3, n4, c4, A3, A4, Q, R, q, r, hk, rfl, rfl, rfl, hq, hr, hb, rq, rr, hd⟩ := hrel
    by_cases h0 : k = 0
    · subst h0
      rw [List.drop_zero] at hd
      obtain ⟨rfl, rfl⟩ := hd.done
      clear hd
      go_wp2_with fail
      go_ret2
      exact ⟨_, _, A3, n3, c3, A4, n4, c4, rfl, rq, rr, hq, hr, hb⟩
    · obtain ⟨j, rfl⟩ : ∃ j, k = j + 1 := ⟨k - 1, by omega⟩
      obtain ⟨b, off, y, rfl, _, ey, hcell⟩ := (hs.below hb hB).at_ (j := j) (by omega)
      have hyy := hx.get ey
      have hji : (j : Int) < (n : Int) := by omega
      have hnx := Lib.hid (val_drop ey)
      have hl3 : n3 ≤ n := by rw [← hq.len]; exact row_len rq (Int.lt_of_le_of_lt hd.le (V2.out _))
      have hl4 : n4 ≤ m := by rw [← hr.len]; exact row_len rr (Int.lt_trans hd.r1 V1.out)
      have HD := Lib.hid hd
      have dR := rr.dg
      have vR := Lib.hid rr.val
      have RQ := Lib.hid rq
      clear hd rr rq
      go_wp2_with fail
      refine (bup_any hr (Nat.le_refl _) dR (by omega) (by omega)).mono ?_
      rintro e w1 ⟨R1, A5, n5, c5, rfl, hr1, ho1, b1⟩
      rw [vR.out] at hr1
      have hb1 := hb.trans (b1.mono hb.size)
      have hq1 := (hq.below b1 (Nat.le_refl _)).more b1.size
      have hl5 : n5 ≤ m + 1 := by
        rw [← ho1.len]; exact row_len hr1 (by have := HD.out.r1; have := V1.out; rw [Int.pow_succ]; omega)
      have ht1 := (ht.below hb1 hB).more (Nat.le_trans hB hb1.size)
      clear hb b1 hr hq vR dR hcell
      go_wp2_with fail
      refine (bless_any ho1 ht1 hr1.dg hy).mono ?_
      rintro e w2 ⟨he, b2⟩
      rw [hr1.val] at he
      have hb2 := hb1.trans (b2.mono hb1.size)
      have hq2 := (hq1.below b2 (Nat.le_refl _)).more b2.size
      have ho2 := (ho1.below b2 (Nat.le_refl _)).more b2.size
      have ht2 := (ht1.below b2 (Nat.le_refl _)).more b2.size
      clear hb1 b2 hq1 ho1 ht1
      have dQ := RQ.out.dg
      have vQ := Lib.hid RQ.out.val
      clear RQ
      by_cases hlt : y + 2 * r < val 2 ys
      · rw [decide_eq_true hlt] at he
        subst he
        have HD1 := Lib.hid (HD.out.less (by omega) hlt)
        have HR1 := Lib.hid hr1
        clear HD hr1 hlt
        go_wp2_with fail
        refine (bup_any hq2 (Nat.le_refl _) dQ (by omega) (by omega)).mono ?_
        rintro e w3 ⟨Q1, A6, n6, c6, rfl, hq3, hs3, b3⟩
        rw [vQ.out] at hq3
        have hb3 := hb2.trans (b3.mono hb2.size)
        have ho3 := (ho2.below b3 (Nat.le_refl _)).more b3.size
        clear b3 hb2 hq2 ho2 ht2 dQ vQ
        rw [← hnx.out] at HD1
        go_wp2_with fail
        go_roundw
        case rel => exact ⟨j, n6, c6, n5, c5, A6, A5, Q1, R1, _, _, by omega, by simp, rfl, rfl, hs3, ho3, hb3, hq3, HR1.out, HD1.out⟩
        case measure => simp [intOf] <;> omega
      · rw [decide_eq_false hlt] at he
        subst he
        have HD1 := Lib.hid (HD.out.more hyy (by omega))
        have dR1 := hr1.dg
        have vR1 := hr1.val
        clear HD hr1
        go_wp2_with fail
        refine (bsub_any ho2 ht2 (Nat.le_refl _) dR1 hy (by omega) (by rw [vR1]; omega)).mono ?_
        rintro e w3 ⟨R2, A7, n7, c7, rfl, hr3, ho3, b3⟩
        rw [vR1] at hr3
        have hb3 := hb2.trans (b3.mono hb2.size)
        have hq3 := (hq2.below b3 (Nat.le_refl _)).more b3.size
        have HR3 := Lib.hid hr3
        clear b3 hb2 hq2 ho2 ht2 vR1 dR1 hr3 hlt
        go_wp2_with fail
        refine (bup_any hq3 (Nat.le_refl _) dQ (by omega) (by omega)).mono ?_
        rintro e w4 ⟨Q1, A6, n6, c6, rfl, hq4, hs4, b4⟩
        rw [vQ.out] at hq4
        have hb4 := hb3.trans (b4.mono hb3.size)
        have ho4 := (ho3.below b4 (Nat.le_refl _)).more b4.size
        clear b4 hb3 hq3 ho3 dQ vQ
        rw [← hnx.out] at HD1
        go_wp2_with fail
        go_roundw
        case rel => exact ⟨j, n6, c6, n7, c7, A6, A7, Q1, R2, _, _, by omega, by simp, rfl, rfl, hs4, ho4, hb4, hq4, HR3.out, HD1.out⟩
        case measure => simp [intOf] <;> omega

/-- The number that a slice of digits reads as in a world. -/
def rdv (w : World) : Value → Nat
  | .slice (some ⟨b, off, _⟩) n _ => (val 2 ((List.range n).map fun j => match w.cell? ⟨b, off + j, none⟩ with | some (.int _ x) => x | _ => 0)).toNat
  | _ => 0
theorem Sl.rdv {w : World} {B : Nat} {A : Option Addr} {n c : Nat} {xs : List Int} (h : Sl .u8 w B A n c xs) : rdv w (.slice A n c) = (val 2 xs).toNat := by
  cases A with
  | none =>
    have h0 := h.2.2.2.1 rfl
    have : xs = [] := List.eq_nil_of_length_eq_zero (by have := h.len; have := h.le; omega)
    subst this
    rfl
  | some a =>
    by_cases hn : 0 < n
    · obtain ⟨b, off, hA, _, hc⟩ := h.2.2.2.2 hn
      injection hA with hA
      subst hA
      have e : ((List.range n).map fun j => match w.cell? ⟨b, off + j, none⟩ with | some (.int _ x) => x | _ => 0) = xs := by
        refine List.ext_getElem? fun i => ?_
        rcases Nat.lt_or_ge i n with hi | hi
        · obtain ⟨x, hx⟩ := get_of_lt (xs := xs) (by rw [h.len]; exact hi)
          rw [List.getElem?_map, List.getElem?_range hi, hx]
          simp [hc i x hx]
        · rw [List.getElem?_eq_none (by simp; exact hi), List.getElem?_eq_none (by rw [h.len]; exact hi)]
      show (val 2 _).toNat = _
      rw [e]
    · obtain rfl : n = 0 := by omega
      have : xs = [] := List.eq_nil_of_length_eq_zero h.len
      subst this
      rfl

theorem bsmall_any {w : World} {x : Int} (hx : 0 ≤ x ∧ x < 4294967296) :
    Calls Tryz.prog 44 #[.int .u32 x] w (Seen .u8 2 w x) := by
  go_enter Tryz.func44, Tryz.ntmps44
  go_wp2_with fail
  refine (bits_any (Sl.new1 .u32 w x 27) (by rw [size_one]; exact Nat.le_refl _) (Dg.cons hx Dg.nil) (by omega)).mono ?_
  rintro e w1 ⟨ys, A, n, c, rfl, hr, hs, hb⟩
  have hr' : Row 2 x ys := by simpa [val] using hr
  have HR := Lib.hid hr'
  clear hr hr'
  go_wp2_with fail
  go_ret
  exact ⟨ys, A, n, c, rfl, HR.out, hs, below_a1 hb⟩

set_option maxHeartbeats 2000000 in
theorem bgcd_any {w : World} {B : Nat} {A A2 : Option Addr} {n c m c2 : Nat} {xs ys : List Int} (hs : Sl .u8 w B A n c xs) (ht : Sl .u8 w B A2 m c2 ys) (hB : B ≤ w.heap.size) (hx : Dg 2 xs) (hy : Dg 2 ys) (hn : n ≤ 400000000) (hm : m ≤ 400000000) :
    Calls Tryz.prog 16 #[.slice A n c, .slice A2 m c2] w (Seen .u8 2 w (gcdI (val 2 xs) (val 2 ys))) := by
  go_enter Tryz.func16, Tryz.ntmps16
  go_wp2_with fail
  go_loopw [0, 1] (fun av bv wr => ∃ (n3 c3 n4 c4 : Nat) (A3 A4 : Option Addr) (X Y : List Int), av = .slice A3 n3 c3 ∧ bv = .slice A4 n4 c4 ∧ n3 ≤ 400000000 ∧ n4 ≤ 400000000 ∧ Sl .u8 wr wr.heap.size A3 n3 c3 X ∧ Sl .u8 wr wr.heap.size A4 n4 c4 Y ∧ Below w.heap.size w wr ∧
      Dg 2 X ∧ Dg 2 Y ∧ gcdI (val 2 X) (val 2 Y) = gcdI (val 2 xs) (val 2 ys)) (fun _ bv wr => rdv wr bv)
  case atStart => exact ⟨n, c, m, c2, A, A2, xs, ys, rfl, rfl, hn, hm, hs.more hB, ht.more hB, Below.refl _ _, hx, hy, rfl⟩
  case round =>
    obtain ⟨n3, c3, n4, c4, A3, A4, X, Y, rfl, rfl, hn3, hn4, h3, h4, hb, d3, d4, hg⟩ := hrel
    have HG := Lib.hid hg
    have hmeas := Lib.hid h4.rdv
    have htl := tl_val 2 Y
    have v3 := val_nonneg (β := 2) (by decide) d3
    have v4 := val_nonneg (β := 2) (by decide) d4
    clear hg
    go_wp2_with fail
    refine (btrim_any h4).mono ?_
    rintro e w' ⟨⟨n', rfl, hs'⟩, rfl⟩
    by_cases h0 : n' = 0
    · subst h0
      have hv : val 2 Y = 0 := by rw [← htl, List.eq_nil_of_length_eq_zero hs'.len]; rfl
      have HR := Lib.hid (show Row 2 (gcdI (val 2 xs) (val 2 ys)) (tl X) from ⟨tl_Dg d3, tl_idem _, by rw [tl_val, ← HG.out, hv, gcdI_zero v3]⟩)
      clear htl hv HG
      go_wp2_with fail
      refine (btrim_any h3).mono ?_
      rintro e w' ⟨⟨n'', rfl, hs''⟩, rfl⟩
      go_wp2_with fail
      go_ret
      exact ⟨_, A3, n'', c3, rfl, HR.out, hs'', hb⟩
    · have hpos : 0 < val 2 Y := by
        rcases Int.lt_or_le 0 (val 2 Y) with h | h
        · exact h
        · have := Tr.zero (β := 2) (by decide) (tl_Dg d4) (tl_idem Y) (by rw [htl]; omega)
          have := hs'.len
          simp_all
      have hY : val 2 Y < 2 ^ n4 := by rw [← h4.len]; exact val_lt (by decide) d4
      have HP := Lib.hid hpos
      have HY := Lib.hid hY
      clear htl hpos hY
      go_wp2_with fail
      refine (bdivmod_any h3 h4 (Nat.le_refl _) d3 d4 hn3 hn4 HP.out).mono ?_
      rintro e w2 ⟨qs, rs, A5, n5, c5, A6, n6, c6, rfl, rq, rr, s5, s6, b2⟩
      have hlt := Lib.hid (Int.emod_lt_of_pos (val 2 X) HP.out)
      have hge := Lib.hid (Int.emod_nonneg (val 2 X) (show val 2 Y ≠ 0 by have := HP.out; omega))
      have hl6 : n6 ≤ n4 := by rw [← s6.len]; exact row_len rr (Int.lt_trans hlt.out HY.out)
      have hm6 := Lib.hid s6.rdv
      have HG2 := Lib.hid (show gcdI (val 2 Y) (val 2 rs) = gcdI (val 2 xs) (val 2 ys) by rw [rr.val, gcdI_next v3 HP.out]; exact HG.out)
      have vr := Lib.hid rr.val
      have dr := rr.dg
      have s4 := (h4.below b2 (Nat.le_refl _)).more b2.size
      have hb2 := hb.trans (b2.mono hb.size)
      clear rq rr HG
      go_wp2_with fail
      go_roundw
      case rel => exact ⟨n4, c4, n6, c6, A4, A6, Y, rs, rfl, rfl, hn4, by omega, s4, s6, hb2, d4, dr, HG2.out⟩
      case measure =>
        show rdv _ _ < rdv _ _
        rw [hm6.out, hmeas.out, vr.out]
        have := hlt.out
        have := hge.out
        omega
end Go.Proofs.YthicpakanhhipaaGreatDoor
