/- tallageref02: Add, Sub, Bits: what each call answers. -/
import Derived.Test.YthicpakanhhipaaGreatDoorNRefA
import Derived.Deep.RegionHeld3
namespace Go.Proofs.YthicpakanhhipaaGreatDoor
open Go Go.RowKit

set_option maxHeartbeats 2000000 in
theorem badd_any {w : World} {B : Nat} {A A2 : Option Addr} {n c m c2 : Nat} {xs ys : List Int} (hs : Sl .u8 w B A n c xs) (ht : Sl .u8 w B A2 m c2 ys) (hB : B ≤ w.heap.size) (hx : Dg 2 xs) (hy : Dg 2 ys) (hn : n ≤ 1000000000) (hm : m ≤ 1000000000) :
    Calls Tryz.prog 30 #[.slice A n c, .slice A2 m c2] w (Seen .u8 2 w (val 2 xs + val 2 ys)) := by
  have hul := hs.len
  have hvl := ht.len
  go_enter Tryz.func30, Tryz.ntmps30
  go_wp2_with fail
  go_loopw [5, 6, 7] (fun ov cv iv wr => ∃ (i c2 : Nat) (q : Int) (A3 : Option Addr) (O : List Int), iv = .int .i64 i ∧ cv = .int .u8 q ∧ ov = .slice A3 i c2 ∧ (0 ≤ q ∧ q ≤ 1) ∧ i ≤ max n m + 1 ∧ (i = max n m + 1 → q = 0) ∧ Own .u8 5 wr w.heap.size A3 i c2 O ∧ Below w.heap.size w wr ∧
      Acc 2 (val 2 (xs.take i) + val 2 (ys.take i)) O i q) (fun _ _ iv _ => max n m + 1 - (intOf iv).toNat)
  case atStart => exact ⟨0, 0, 0, none, [], rfl, rfl, rfl, by omega, by omega, by omega, Own.nil, Below.refl _ _, .start⟩
  case round =>
    obtain ⟨i, c3, q, A3, O, rfl, rfl, rfl, hq, hi, hiq, ho, hb, hacc⟩ := hrel
    by_cases hend : (n ≤ i ∧ m ≤ i) ∧ q = 0
    · obtain ⟨⟨hge, hge2⟩, rfl⟩ := hend
      have hN := Lib.hid (show val 2 O = val 2 xs + val 2 ys by
        have := hacc.num
        rw [List.take_of_length_le (by omega), List.take_of_length_le (by omega)] at this
        omega)
      have hD := hacc.dg
      have HR := Lib.hid (show Row 2 (val 2 xs + val 2 ys) (tl O) from ⟨tl_Dg hD, tl_idem _, by rw [tl_val]; exact hN.out⟩)
      clear hacc hiq hN hD
      go_wp2_with fail
      refine (btrim_any ho.sl).mono ?_
      rintro e w' ⟨⟨n', rfl, hs'⟩, rfl⟩
      go_wp2_with fail
      go_ret
      exact ⟨_, A3, n', c3, rfl, HR.out, hs', hb⟩
    · have hgo : i < n ∨ (n ≤ i ∧ i < m) ∨ (n ≤ i ∧ m ≤ i ∧ 0 < q) := by omega
      have hilt : i ≤ max n m := by omega
      have ha := bdigit_any (i := i) (hs.below hb hB)
      have hc := bdigit_any (i := i) (ht.below hb hB)
      have hxr := get0_dg (by decide) hx i
      have hyr := get0_dg (by decide) hy i
      have hnx : ∀ d q' : Int, (0 ≤ d ∧ d < 2) → d + 2 * q' = xs[i]?.getD 0 + ys[i]?.getD 0 + q → Acc 2 (val 2 (xs.take (i + 1)) + val 2 (ys.take (i + 1))) (O ++ [d]) (i + 1) q' := by
        intro d q' hd e
        have := hacc.step hd e
        rw [val_take_next, val_take_next]
        rw [Int.mul_add] at this
        rw [show val 2 (xs.take i) + 2 ^ i * xs[i]?.getD 0 + (val 2 (ys.take i) + 2 ^ i * ys[i]?.getD 0) = val 2 (xs.take i) + val 2 (ys.take i) + (2 ^ i * xs[i]?.getD 0 + 2 ^ i * ys[i]?.getD 0) by omega]
        exact this
      have hz : max n m ≤ i → xs[i]?.getD 0 = 0 ∧ ys[i]?.getD 0 = 0 := fun h => ⟨by rw [List.getElem?_eq_none (by omega)]; rfl, by rw [List.getElem?_eq_none (by omega)]; rfl⟩
      generalize xs[i]?.getD 0 = x at *
      generalize ys[i]?.getD 0 = y at *
      have hq' := Lib.hid (show (0 ≤ (x + y + q) / 2 ∧ (x + y + q) / 2 ≤ 1) ∧ (i + 1 = max n m + 1 → (x + y + q) / 2 = 0) by
        refine ⟨by omega, fun h => ?_⟩
        obtain ⟨h1, h2⟩ := hz (by omega)
        omega)
      have HA5 := Lib.hid (hnx ((x + y + q) % 2) ((x + y + q) / 2) (by omega) (by omega))
      have HAND := Lib.hid (and1_u8 (x := x + y + q) (by omega) (by omega))
      have HA := Lib.hid ha
      have HC := Lib.hid hc
      have HO := Lib.hid ho
      clear ha hc hnx hz hacc hiq ho hs ht
      rcases hgo with hgo | hgo | hgo
      all_goals
        go_wp2_with (first | (go_at_call_of 51 (Value.slice A n c); refine HA.out.mono ?_; rintro e w' ⟨rfl, rfl⟩) | (go_at_call_of 51 (Value.slice A2 m c2); refine HC.out.mono ?_; rintro e w' ⟨rfl, rfl⟩) | (at_builtin; refine wpList_app elemB rfl _ _ rfl (HO.out.alloc _) rfl (Sl.new1 .u8 _ _ _) rfl (by omega) (by unfold maxLen; omega) (by have := hb.size; simp; omega) ?_; intro A5 c5 w5 h5 hg))
        have hb5 : Below w.heap.size w w5 := (hb.alloc hb.size _).grown hg (by have := hb.size; simp; omega) (fun k hk => (HO.out.blk_ k hk).1)
        rw [HAND.out] at h5
        clear hg hb HO HA HC HAND
        go_wp2
        go_roundw
        case rel => exact ⟨i + 1, c5, _, A5, _, by go_num, rfl, rfl, hq'.out.1, by omega, hq'.out.2, h5, hb5, HA5.out⟩
        case measure => simp [intOf] <;> omega

theorem take_all {ys : List Int} (hy : Dg 2 ys) {n : Nat} (h : val 2 ys < 2 ^ n) : val 2 (ys.take n) = val 2 ys := by
  rcases Nat.lt_or_ge n ys.length with hl | hl
  · have e : val 2 ys = val 2 (ys.take n) + 2 ^ n * val 2 (ys.drop n) := by
      conv => lhs; rw [← List.take_append_drop n ys]
      rw [val_append, List.length_take, Nat.min_eq_left (by omega)]
    have h1 := val_nonneg (β := 2) (by decide) (hy.take n)
    have h2 := val_nonneg (β := 2) (by decide) (hy.drop n)
    have h3 : (0 : Int) < 2 ^ n := pow_pos' (by decide) n
    generalize val 2 (ys.drop n) = v at *
    rcases Int.lt_or_le 0 v with hv | hv
    · have : (2 : Int) ^ n * 1 ≤ 2 ^ n * v := Int.mul_le_mul_of_nonneg_left (by omega) (by omega)
      omega
    · obtain rfl : v = 0 := by omega
      omega
  · rw [List.take_of_length_le hl]
theorem Acc.noBorrow {D q : Int} {O : List Int} {n : Nat} (h : Acc 2 D O n (-q)) (hD : 0 ≤ D) (hq : 0 ≤ q ∧ q ≤ 1) : val 2 O = D := by
  have h1 := val_lt (β := 2) (by decide) h.dg
  rw [h.len] at h1
  have h2 := h.num
  rcases (show q = 0 ∨ q = 1 by omega) with rfl | rfl
  · omega
  · omega

set_option maxHeartbeats 2000000 in
theorem bsub_any {w : World} {B : Nat} {A A2 : Option Addr} {n c m c2 : Nat} {xs ys : List Int} (hs : Sl .u8 w B A n c xs) (ht : Sl .u8 w B A2 m c2 ys) (hB : B ≤ w.heap.size) (hx : Dg 2 xs) (hy : Dg 2 ys) (hn : n ≤ 1000000000) (hle : val 2 ys ≤ val 2 xs) :
    Calls Tryz.prog 39 #[.slice A n c, .slice A2 m c2] w (Seen .u8 2 w (val 2 xs - val 2 ys)) := by
  have hul := hs.len
  have HL := Lib.hid hle
  clear hle
  go_enter Tryz.func39, Tryz.ntmps39
  go_wp2_with fail
  go_loopw [5, 6, 7] (fun ov cv iv wr => ∃ (i c2 : Nat) (q : Int) (A3 : Option Addr) (O : List Int), iv = .int .i64 i ∧ cv = .int .u8 q ∧ ov = .slice A3 i c2 ∧ (0 ≤ q ∧ q ≤ 1) ∧ i ≤ n ∧ Own .u8 5 wr w.heap.size A3 i c2 O ∧ Below w.heap.size w wr ∧
      Acc 2 (val 2 (xs.take i) - val 2 (ys.take i)) O i (-q)) (fun _ _ iv _ => n - (intOf iv).toNat)
  case atStart => exact ⟨0, 0, 0, none, [], rfl, rfl, rfl, by omega, by omega, Own.nil, Below.refl _ _, .start⟩
  case round =>
    obtain ⟨i, c3, q, A3, O, rfl, rfl, rfl, hq, hi, ho, hb, hacc⟩ := hrel
    by_cases hend : n ≤ i
    · obtain rfl : n = i := by omega
      have hN := Lib.hid (show val 2 O = val 2 xs - val 2 ys by
        have h2 := val_lt (β := 2) (by decide) hx
        rw [hul] at h2
        have h3 := HL.out
        rw [List.take_of_length_le (by omega), take_all hy (by omega)] at hacc
        exact hacc.noBorrow (by omega) hq)
      have hD := hacc.dg
      have HR := Lib.hid (show Row 2 (val 2 xs - val 2 ys) (tl O) from ⟨tl_Dg hD, tl_idem _, by rw [tl_val]; exact hN.out⟩)
      clear hacc hN hD
      go_wp2_with fail
      refine (btrim_any ho.sl).mono ?_
      rintro e w' ⟨⟨n', rfl, hs'⟩, rfl⟩
      go_wp2_with fail
      go_ret
      exact ⟨_, A3, n', c3, rfl, HR.out, hs', hb⟩
    · have ha := bdigit_any (i := i) (hs.below hb hB)
      have hc := bdigit_any (i := i) (ht.below hb hB)
      have hxr := get0_dg (by decide) hx i
      have hyr := get0_dg (by decide) hy i
      have hnx : ∀ d q' : Int, (0 ≤ d ∧ d < 2) → d + 2 * (-q') = xs[i]?.getD 0 - ys[i]?.getD 0 - q → Acc 2 (val 2 (xs.take (i + 1)) - val 2 (ys.take (i + 1))) (O ++ [d]) (i + 1) (-q') := by
        intro d q' hd e
        have := hacc.step (f := xs[i]?.getD 0 - ys[i]?.getD 0) (c' := -q') hd (by omega)
        rw [val_take_next, val_take_next]
        rw [Int.mul_sub] at this
        rw [show val 2 (xs.take i) + 2 ^ i * xs[i]?.getD 0 - (val 2 (ys.take i) + 2 ^ i * ys[i]?.getD 0) = val 2 (xs.take i) - val 2 (ys.take i) + (2 ^ i * xs[i]?.getD 0 - 2 ^ i * ys[i]?.getD 0) by omega]
        exact this
      generalize xs[i]?.getD 0 = x at *
      generalize ys[i]?.getD 0 = y at *
      have hq' := Lib.hid (show (0 ≤ 1 - (2 + x - y - q) / 2 ∧ 1 - (2 + x - y - q) / 2 ≤ 1) by omega)
      have HA5 := Lib.hid (hnx ((2 + x - y - q) % 2) (1 - (2 + x - y - q) / 2) (by omega) (by omega))
      have HAND := Lib.hid (and1_u8 (x := 2 + x - y - q) (by omega) (by omega))
      have HA := Lib.hid ha
      have HC := Lib.hid hc
      have HO := Lib.hid ho
      clear ha hc hnx hacc ho hs ht
      go_wp2_with (first | (go_at_call_of 51 (Value.slice A n c); refine HA.out.mono ?_; rintro e w' ⟨rfl, rfl⟩) | (go_at_call_of 51 (Value.slice A2 m c2); refine HC.out.mono ?_; rintro e w' ⟨rfl, rfl⟩) | (at_builtin; refine wpList_app elemB rfl _ _ rfl (HO.out.alloc _) rfl (Sl.new1 .u8 _ _ _) rfl (by omega) (by unfold maxLen; omega) (by have := hb.size; simp; omega) ?_; intro A5 c5 w5 h5 hg))
      have hb5 : Below w.heap.size w w5 := (hb.alloc hb.size _).grown hg (by have := hb.size; simp; omega) (fun k hk => (HO.out.blk_ k hk).1)
      rw [HAND.out] at h5
      clear hg hb HO HA HC HAND
      go_wp2
      go_roundw
      case rel => exact ⟨i + 1, c5, _, A5, _, by go_num, rfl, rfl, hq'.out, by omega, h5, hb5, HA5.out⟩
      case measure => simp [intOf] <;> omega

/-- Binary digits of limbs, laid down up to digit k of limb i. -/
structure BitI (xs : List Int) (i k : Nat) (x : Int) (O : List Int) : Prop where
  dg : Dg 2 O
  len : O.length = 32 * i + k
  num : val 2 O = val 4294967296 (xs.take i) + 4294967296 ^ i * (x % 2 ^ k)
theorem BitI.start {xs : List Int} {x : Int} : BitI xs 0 0 x [] := ⟨Dg.nil, rfl, by simp [val]⟩
theorem mod_next (x : Int) (k : Nat) : x % 2 ^ (k + 1) = x % 2 ^ k + 2 ^ k * (x / 2 ^ k % 2) := by
  rw [Int.pow_succ]
  have hp : (0 : Int) < 2 ^ k := pow_pos' (by decide) k
  generalize (2 : Int) ^ k = p at *
  have h1 := Int.emod_nonneg x (show p ≠ 0 by omega)
  have h2 := Int.emod_lt_of_pos x hp
  have e1 := Int.mul_ediv_add_emod x p
  generalize x / p = y at *
  generalize x % p = r at *
  have e2 : x = (r + p * (y % 2)) + p * 2 * (y / 2) := by
    have : y = 2 * (y / 2) + y % 2 := by omega
    rw [← e1]
    conv => lhs; rw [this]
    grind
  rw [e2, Int.add_mul_emod_self_left]
  rcases (show y % 2 = 0 ∨ y % 2 = 1 by omega) with h | h
  · rw [h, Int.mul_zero, Int.add_zero]; exact Int.emod_eq_of_lt h1 (by omega)
  · rw [h, Int.mul_one]; exact Int.emod_eq_of_lt (by omega) (by omega)
theorem BitI.step {xs : List Int} {i k : Nat} {x : Int} {O : List Int} (h : BitI xs i k x O) : BitI xs i (k + 1) x (O ++ [x / 2 ^ k % 2]) := by
  refine ⟨h.dg.append (Dg.cons (by omega) Dg.nil), by simp [h.len]; omega, ?_⟩
  rw [val_snoc, h.len, h.num, mod_next, Int.pow_add, Int.pow_mul, show (2 : Int) ^ 32 = 4294967296 by decide]
  grind
theorem BitI.next {xs : List Int} {i : Nat} {x y : Int} {O : List Int} (h : BitI xs i 32 x O) (ex : xs[i]? = some x) (hx : 0 ≤ x ∧ x < 4294967296) : BitI xs (i + 1) 0 y O := by
  refine ⟨h.dg, by rw [h.len]; omega, ?_⟩
  rw [h.num, val_take_next, ex, show (2 : Int) ^ 32 = 4294967296 by decide, Int.emod_eq_of_lt hx.1 hx.2]
  simp
theorem and1_u32 {x : Int} (h0 : 0 ≤ x) (h1 : x < 4294967296) : bits .and .u32 x 1 = x % 2 := bits_mask .u32 32 (by decide) (fun n h0 h1 => by rw [IntKind.wrap_u32]; omega) 1 (by decide) x h0 h1

set_option maxHeartbeats 2000000 in
theorem bits_any {w : World} {B : Nat} {A : Option Addr} {n c : Nat} {xs : List Int} (hs : Sl .u32 w B A n c xs) (hB : B ≤ w.heap.size) (hx : Dg 4294967296 xs) (hn : n ≤ 10000000) :
    Calls Tryz.prog 8 #[.slice A n c] w (Seen .u8 2 w (val 4294967296 xs)) := by
  have hul := hs.len
  go_enter Tryz.func8, Tryz.ntmps8
  go_wp2_with fail
  go_loopw [3, 4] (fun ov iv wr => ∃ (i c2 : Nat) (A3 : Option Addr) (O : List Int), iv = .int .i64 i ∧ ov = .slice A3 (32 * i) c2 ∧ i ≤ n ∧ Own .u8 5 wr w.heap.size A3 (32 * i) c2 O ∧ Below w.heap.size w wr ∧ ∀ x, BitI xs i 0 x O) (fun _ iv _ => n - (intOf iv).toNat)
  case atStart => exact ⟨0, 0, none, [], rfl, rfl, by omega, Own.nil, Below.refl _ _, fun _ => .start⟩
  case round =>
    obtain ⟨i, c3, A3, O, rfl, rfl, hi, ho, hb, hacc⟩ := hrel
    by_cases hend : n ≤ i
    · obtain rfl : n = i := by omega
      have hN := Lib.hid (show val 2 O = val 4294967296 xs by
        have := (hacc 0).num
        rw [List.take_of_length_le (by omega)] at this
        simpa using this)
      have hD := (hacc 0).dg
      have HR := Lib.hid (show Row 2 (val 4294967296 xs) (tl O) from ⟨tl_Dg hD, tl_idem _, by rw [tl_val]; exact hN.out⟩)
      clear hacc hN hD
      go_wp2_with fail
      refine (btrim_any ho.sl).mono ?_
      rintro e w' ⟨⟨n', rfl, hs'⟩, rfl⟩
      go_wp2_with fail
      go_ret
      exact ⟨_, A3, n', c3, rfl, HR.out, hs', hb⟩
    · obtain ⟨b, off, x, rfl, hbB, ex, _⟩ := (hs.below hb hB).at_ (j := i) (by omega)
      have hxx := hx.get ex
      have hacc' := hacc x
      have hin : (i : Int) < n := by omega
      clear hacc
      go_wp2_with fail
      go_loopw [3, 5] (fun ov kv wr => ∃ (k c2 m2 : Nat) (A3 : Option Addr) (O : List Int), kv = .int .i64 k ∧ m2 = 32 * i + k ∧ ov = .slice A3 m2 c2 ∧ k ≤ 32 ∧ Own .u8 5 wr w.heap.size A3 m2 c2 O ∧ Below w.heap.size w wr ∧ BitI xs i k x O) (fun _ kv _ => 32 - (intOf kv).toNat)
      case atStart => exact ⟨0, c3, _, A3, O, rfl, rfl, rfl, by omega, ho, hb, hacc'⟩
      case round =>
        clear ho hb hacc'
        obtain ⟨k, c4, m2, A4, O4, rfl, hm2, rfl, hk, ho, hb, hacc⟩ := hrel
        by_cases hk32 : k < 32
        · have hcell : wr.cell? ⟨b, off + i, none⟩ = some (.int .u32 x) := by
            obtain ⟨b', off', x', hA, _, ex', hc⟩ := (hs.below hb hB).at_ (j := i) (by omega)
            injection hA with hA
            injection hA with q1 q2
            subst q1; subst q2
            rw [ex] at ex'
            injection ex' with ex'
            subst ex'
            exact hc
          have HO := Lib.hid ho
          clear ho
          have hbit := Lib.hid (show bits .and .u32 (x / 2 ^ k) 1 % 256 = x / 2 ^ k % 2 by
            have hp : (0 : Int) < 2 ^ k := pow_pos' (by decide) k
            have h1 : 0 ≤ x / 2 ^ k := Int.ediv_nonneg hxx.1 (by omega)
            have h2 : x / 2 ^ k ≤ x := Int.ediv_le_self _ hxx.1
            rw [and1_u32 h1 (by omega)]; omega)
          have hacc2 := Lib.hid hacc.step
          clear hacc
          go_wp2_with (at_builtin; refine wpList_app elemB rfl _ _ rfl (HO.out.alloc _) rfl (Sl.new1 .u8 _ _ _) rfl (by omega) (by unfold maxLen; omega) (by have := hb.size; simp; omega) ?_; intro A5 c5 w5 h5 hg)
          have hb5 : Below w.heap.size w w5 := (hb.alloc hb.size _).grown hg (by have := hb.size; simp; omega) (fun k hk => (HO.out.blk_ k hk).1)
          rw [hbit.out] at h5
          clear hg hb HO hbit hcell
          go_wp2
          go_roundw
          case rel => exact ⟨k + 1, c5, m2 + 1, A5, _, by go_num, by omega, by rw [hm2], by omega, h5, hb5, hacc2.out⟩
          case measure => simp [intOf] <;> omega
        · obtain rfl : k = 32 := by omega
          have hnx : ∀ y, BitI xs (i + 1) 0 y O4 := fun y => hacc.next ex hxx
          subst hm2
          have HX := Lib.hid hnx
          clear hacc hnx
          go_wp2
          go_roundw
          case rel => exact ⟨i + 1, c4, A4, O4, by go_num, by rw [show 32 * (i + 1) = 32 * i + 32 by omega], by omega, ho, hb, HX.out⟩
          case measure => simp [intOf] <;> omega
end Go.Proofs.YthicpakanhhipaaGreatDoor
