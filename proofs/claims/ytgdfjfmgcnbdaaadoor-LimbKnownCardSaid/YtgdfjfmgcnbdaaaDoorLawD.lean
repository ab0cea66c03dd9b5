/- tallageref01.Shift; tallagelaw01.LimbShift: it returns true, whatever the row is. -/
import Derived.Test.YtgdfjfmgcnbdaaaDoorLawC
namespace Go.Proofs.YtgdfjfmgcnbdaaaDoor
open Go Go.RowKit

/-- What a shift answers. -/
def ShSpec (N n : Int) (qs : List Int) (er : Int) : Prop :=
  (n < 0 ∧ Row 4294967296 (N / 2 ^ (-n).toNat) qs ∧ er = 0) ∨ (0 ≤ n ∧ (N = 0 ∨ n ≤ 65536) ∧ Row 4294967296 (2 ^ n.toNat * N) qs ∧ er = 0) ∨ (0 ≤ n ∧ N ≠ 0 ∧ 65536 < n ∧ qs = [] ∧ er = 3)
theorem ShSpec.uniq {N n : Int} {qs qs' : List Int} {er er' : Int} (h : ShSpec N n qs er) (h' : ShSpec N n qs' er') : qs = qs' ∧ er = er' := by
  rcases h with ⟨h0, h1, h2⟩ | ⟨h0, h1, h2, h3⟩ | ⟨h0, h1, h2, h3, h4⟩ <;> rcases h' with ⟨k0, k1, k2⟩ | ⟨k0, k1, k2, k3⟩ | ⟨k0, k1, k2, k3, k4⟩
  · exact ⟨h1.uniq (by decide) k1, h2.trans k2.symm⟩
  · omega
  · omega
  · omega
  · exact ⟨h2.uniq (by decide) k2, h3.trans k3.symm⟩
  · omega
  · omega
  · omega
  · exact ⟨h3.trans k3.symm, h4.trans k4.symm⟩
def ShU (w : World) (N n : Int) (e : Ending) (w' : World) : Prop :=
  ∃ qs A m c er, ShSpec N n qs er ∧ e = .returned (.tuple #[.slice A m c, .int .i64 er]) ∧ Own .u32 37 w' w.heap.size A m c qs ∧ Below w.heap.size w w'
theorem Shift_u {w : World} {B : Nat} {A : Option Addr} {n c : Nat} {xs : List Int} {s : Int} (hs : Sl .u32 w B A n c xs) (hB : B ≤ w.heap.size) (hx : Dg 4294967296 xs) (hn : n ≤ 1000000000) (hs0 : -9223372036854775808 ≤ s) (hs1 : s ≤ 9223372036854775807) :
    Calls Tryd.prog 28 #[.slice A n c, .int .i64 s] w (ShU w (val 4294967296 xs) s) := by
  refine (Shift_any hs hB hx hn hs0 hs1).mono ?_
  intro e w' h
  unfold ShiftR at h
  split at h
  · rename_i h1
    obtain ⟨ys, A', n', c', hr, rfl, ho, hb⟩ := h
    exact ⟨ys, A', n', c', 0, .inl ⟨h1, hr, rfl⟩, rfl, ho, hb⟩
  · rename_i h1
    split at h
    · rename_i h2
      obtain ⟨rfl, hb⟩ := h
      exact ⟨[], none, 0, 0, 0, .inr (.inl ⟨by omega, .inl h2, ⟨Dg.nil, Tr.nil, by rw [h2, Int.mul_zero]; rfl⟩, rfl⟩), rfl, Own.nil, hb⟩
    · rename_i h2
      split at h
      · rename_i h3
        obtain ⟨rfl, hb⟩ := h
        exact ⟨[], none, 0, 0, 3, .inr (.inr ⟨by omega, h2, h3, rfl, rfl⟩), rfl, Own.nil, hb⟩
      · rename_i h3
        obtain ⟨ys, A', n', c', hr, rfl, ho, hb⟩ := h
        exact ⟨ys, A', n', c', 0, .inr (.inl ⟨by omega, .inr (by omega), hr, rfl⟩), rfl, ho, hb⟩

theorem row_len {V N : Int} {O : List Int} {m : Nat} (hO : Row 4294967296 V O) (hN : N < 4294967296 ^ 40) (hV : V ≤ 2 ^ m * N) (hN0 : 0 ≤ N) (hm : m ≤ 2000) : O.length ≤ 103 := by
  refine hO.len_le (by decide) (Int.lt_of_le_of_lt hV ?_)
  have h3 : (2 : Int) ^ m ≤ 4294967296 ^ 63 := by
    rw [show (4294967296 : Int) = 2 ^ 32 from rfl, ← Int.pow_mul]
    exact pow_mono (by decide) (by omega)
  have h4 : (4294967296 : Int) ^ 103 = 4294967296 ^ 63 * 4294967296 ^ 40 := by rw [← Int.pow_add]
  have p1 : (0 : Int) < 2 ^ m := pow_pos' (by decide) m
  rw [h4]
  generalize (4294967296 : Int) ^ 40 = Y at *
  generalize (4294967296 : Int) ^ 63 = Z at *
  exact Int.lt_of_lt_of_le (Int.mul_lt_mul_of_pos_left hN p1) (Int.mul_le_mul_of_nonneg_right h3 (by omega))
theorem le_pow_mul {V : Int} (k : Nat) (h : 0 ≤ V) : V ≤ 2 ^ k * V := by
  have p : (0 : Int) < 2 ^ k := pow_pos' (by decide) k
  have : 1 * V ≤ 2 ^ k * V := Int.mul_le_mul_of_nonneg_right (by omega) h
  omega
/-- In the midst of a shift to the left. -/
structure UpI (N : Int) (m k : Nat) (V : Int) : Prop where
  le : k ≤ m
  nn : 0 ≤ V
  num : 2 ^ k * V = 2 ^ m * N
theorem UpI.step {N : Int} {m k j : Nat} {V : Int} (h : UpI N m k V) (hj : j ≤ k) : UpI N m (k - j) (2 ^ j * V) := by
  have p : (0 : Int) < 2 ^ j := pow_pos' (by decide) j
  refine ⟨by have := h.le; omega, Int.mul_nonneg (by omega) h.nn, ?_⟩
  rw [← Int.mul_assoc, ← Int.pow_add, show k - j + j = k by omega]
  exact h.num
/-- In the midst of a shift to the right. -/
structure DownI (N : Int) (m k : Nat) (V : Int) : Prop where
  le : k ≤ m
  nn : 0 ≤ V
  small : V ≤ N
  num : V / 2 ^ k = N / 2 ^ m
theorem DownI.step {N : Int} {m k j : Nat} {V : Int} (h : DownI N m k V) (hj : j ≤ k) : DownI N m (k - j) (V / 2 ^ j) := by
  have p : (0 : Int) < 2 ^ j := pow_pos' (by decide) j
  refine ⟨by have := h.le; omega, Int.ediv_nonneg h.nn (by omega), Int.le_trans (Int.ediv_le_self _ h.nn) h.small, ?_⟩
  rw [Int.ediv_ediv_of_nonneg (by omega), ← Int.pow_add, show j + (k - j) = k by omega]
  exact h.num

set_option maxHeartbeats 4000000 in
theorem refShift_up {w : World} {B : Nat} {A : Option Addr} {n c : Nat} {xs : List Int} {m : Nat} (hs : Sl .u32 w B A n c xs) (hB : B ≤ w.heap.size) (hx : Dg 4294967296 xs) (hn : n ≤ 40) (hm : m ≤ 2000) :
    Calls Tryd.prog 27 #[.slice A n c, .int .i64 m] w (ShU w (val 4294967296 xs) m) := by
  have v0 := val_nonneg (by decide) hx
  have v1 := Lib.hid (show val 4294967296 xs < 4294967296 ^ 40 from Int.lt_of_lt_of_le (val_lt (by decide) hx) (pow_mono (by decide) (by have := hs.len; omega)))
  go_enter Tryd.func27, Tryd.ntmps27
  go_wp2_with fail
  refine (refTrim_any hs hB hx (by omega)).mono ?_
  rintro e w1 ⟨us, hu, A1, n1, c1, rfl, ho1, b1⟩
  go_wp2_with fail
  go_loopw [1, 6] (fun nv ov wr => ∃ (k n2 c2 : Nat) (A2 : Option Addr) (O : List Int) (V : Int), nv = .int .i64 k ∧ ov = .slice A2 n2 c2 ∧ Own .u32 37 wr w.heap.size A2 n2 c2 O ∧ Below w.heap.size w wr ∧ Row 4294967296 V O ∧ UpI (val 4294967296 xs) m k V) (fun nv _ _ => (intOf nv).toNat)
  case atStart => exact ⟨m, n1, c1, A1, us, _, rfl, rfl, ho1, b1, hu, ⟨Nat.le_refl _, v0, rfl⟩⟩
  case round =>
    obtain ⟨k, n2, c2, A2, O, V, rfl, rfl, ho, hb, hr, hi⟩ := hrel
    have hkm := hi.le
    have hol := ho.len
    have hl : n2 ≤ 103 := by
      have := row_len hr v1.out (by rw [← hi.num]; exact le_pow_mul k hi.nn) v0 hm
      omega
    clear ho1 hu
    by_cases hgo : 16 ≤ k ∧ 0 < n2
    · obtain ⟨hk, hn2⟩ := hgo
      go_wp2_with fail
      refine (refMulSmall_any ho.sl (Nat.le_refl _) hr.dg (m := 65536) (by omega) (by omega)).mono ?_
      rintro e w4 ⟨zs, hz, A4, n4, c4, rfl, ho4, b4⟩
      rw [hr.val] at hz
      have hst := Lib.hid (hi.step (j := 16) hk)
      have hb4 := hb.trans (b4.mono hb.size)
      have ho4' := ho4.lower hb.size
      clear hi hb ho b4 ho4 hr
      go_wp2_with fail
      go_roundw
      case rel => exact ⟨k - 16, n4, c4, A4, zs, _, by go_num, rfl, ho4', hb4, hz, hst.out⟩
      case measure => simp [intOf] <;> omega
    · have hgo' : k < 16 ∨ (16 ≤ k ∧ n2 = 0) := by omega
      rcases hgo' with hg | ⟨hg, rfl⟩
      all_goals
        go_wp2_with fail
        go_loopw [1, 6] (fun nv ov wr => ∃ (k n2 c2 : Nat) (A2 : Option Addr) (O : List Int) (V : Int), nv = .int .i64 k ∧ ov = .slice A2 n2 c2 ∧ Own .u32 37 wr w.heap.size A2 n2 c2 O ∧ Below w.heap.size w wr ∧ Row 4294967296 V O ∧ UpI (val 4294967296 xs) m k V) (fun nv _ _ => (intOf nv).toNat)
        case atStart => exact ⟨k, _, c2, A2, O, V, rfl, rfl, ho, hb, hr, hi⟩
        case round =>
          clear hol hl hb ho hr hi
          obtain ⟨k, n2, c2, A2, O, V, rfl, rfl, ho, hb, hr, hi⟩ := hrel
          have hkm := hi.le
          have hol := ho.len
          have hl : n2 ≤ 103 := by
            have := row_len hr v1.out (by rw [← hi.num]; exact le_pow_mul k hi.nn) v0 hm
            omega
          by_cases hgo : 0 < k ∧ 0 < n2
          · obtain ⟨hk, hn2⟩ := hgo
            go_wp2_with fail
            refine (refAdd_any ho.sl ho.sl (Nat.le_refl _) hr.dg hr.dg (by omega) (by omega)).mono ?_
            rintro e w4 ⟨zs, hz, A4, n4, c4, rfl, ho4, b4⟩
            rw [hr.val] at hz
            have hst := Lib.hid (hi.step (j := 1) hk)
            have hz' : Row 4294967296 (2 ^ 1 * V) zs := by rw [show (2 : Int) ^ 1 * V = V + V by omega]; exact hz
            have hb4 := hb.trans (b4.mono hb.size)
            have ho4' := ho4.lower hb.size
            clear hi hb ho b4 ho4 hr hz
            go_wp2_with fail
            go_roundw
            case rel => exact ⟨k - 1, n4, c4, A4, zs, _, by go_num, rfl, ho4', hb4, hz', hst.out⟩
            case measure => simp [intOf] <;> omega
          · have hV : V = 2 ^ m * val 4294967296 xs := by
              rw [← hi.num]
              rcases Nat.eq_zero_or_pos k with h | h
              · subst h; simp
              · obtain rfl : n2 = 0 := by omega
                have : V = 0 := by rw [← hr.val, List.eq_nil_of_length_eq_zero hol]; rfl
                rw [this, Int.mul_zero]
            have HV := Lib.hid hV
            have hr' : Row 4294967296 (2 ^ m * val 4294967296 xs) O := by rw [← hV]; exact hr
            clear hV hi hr
            have hgo' : k = 0 ∨ (0 < k ∧ n2 = 0) := by omega
            rcases hgo' with rfl | ⟨hg, rfl⟩
            all_goals
              go_wp2_with fail
              go_loopw [1, 6] (fun nv ov wr' => ∃ k : Nat, nv = .int .i64 k ∧ ov = .slice A2 _ c2 ∧ wr' = wr) (fun _ _ _ => 0)
              case atStart => exact ⟨_, rfl, rfl, rfl⟩
              case round =>
                obtain ⟨k, rfl, rfl, rfl⟩ := hrel
                go_wp2_with fail
                go_loopw [1, 6] (fun nv ov wr' => ∃ k : Nat, nv = .int .i64 k ∧ ov = .slice A2 _ c2 ∧ wr' = wr) (fun _ _ _ => 0)
                case atStart => exact ⟨_, rfl, rfl, rfl⟩
                case round =>
                  obtain ⟨k, rfl, rfl, rfl⟩ := hrel
                  go_wp2_with fail
                  go_ret2
                  exact ⟨O, A2, _, c2, 0, .inr (.inl ⟨by omega, .inr (by omega), by rw [Int.toNat_natCast]; exact hr', rfl⟩), rfl, ho, hb⟩

set_option maxHeartbeats 4000000 in
theorem refShift_down {w : World} {B : Nat} {A : Option Addr} {n c : Nat} {xs : List Int} {m : Nat} (hs : Sl .u32 w B A n c xs) (hB : B ≤ w.heap.size) (hx : Dg 4294967296 xs) (hn : n ≤ 40) (hm : m ≤ 100000) (hm0 : 0 < m) :
    Calls Tryd.prog 27 #[.slice A n c, .int .i64 (-(m : Int))] w (ShU w (val 4294967296 xs) (-(m : Int))) := by
  have v0 := val_nonneg (by decide) hx
  have v1 := Lib.hid (show val 4294967296 xs < 4294967296 ^ 40 from Int.lt_of_lt_of_le (val_lt (by decide) hx) (pow_mono (by decide) (by have := hs.len; omega)))
  go_enter Tryd.func27, Tryd.ntmps27
  go_wp2_with fail
  refine (refTrim_any hs hB hx (by omega)).mono ?_
  rintro e w1 ⟨us, hu, A1, n1, c1, rfl, ho1, b1⟩
  go_wp2_with fail
  go_loopw [1, 6] (fun nv ov wr' => nv = .int .i64 (-(m : Int)) ∧ ov = .slice A1 n1 c1 ∧ wr' = w1) (fun _ _ _ => 0)
  case atStart => exact ⟨rfl, rfl, rfl⟩
  case round =>
    obtain ⟨rfl, rfl, rfl⟩ := hrel
    go_wp2_with fail
    go_loopw [1, 6] (fun nv ov wr' => nv = .int .i64 (-(m : Int)) ∧ ov = .slice A1 n1 c1 ∧ wr' = wr) (fun _ _ _ => 0)
    case atStart => exact ⟨rfl, rfl, rfl⟩
    case round =>
      obtain ⟨rfl, rfl, rfl⟩ := hrel
      go_wp2_with fail
      go_loopw [1, 6] (fun nv ov wr => ∃ (k n2 c2 : Nat) (A2 : Option Addr) (O : List Int) (V : Int), nv = .int .i64 (-(k : Int)) ∧ ov = .slice A2 n2 c2 ∧ Own .u32 37 wr w.heap.size A2 n2 c2 O ∧ Below w.heap.size w wr ∧ Row 4294967296 V O ∧ DownI (val 4294967296 xs) m k V) (fun nv _ _ => (-(intOf nv)).toNat)
      case atStart => exact ⟨m, n1, c1, A1, us, _, rfl, rfl, ho1, b1, hu, ⟨Nat.le_refl _, v0, Int.le_refl _, rfl⟩⟩
      case round =>
        obtain ⟨k, n2, c2, A2, O, V, rfl, rfl, ho, hb, hr, hi⟩ := hrel
        have hkm := hi.le
        have hol := ho.len
        have hl : n2 ≤ 40 := by
          have := hr.len_le (by decide) (Int.lt_of_le_of_lt hi.small v1.out)
          omega
        clear ho1 hu
        by_cases hgo : 16 ≤ k ∧ 0 < n2
        · obtain ⟨hk, hn2⟩ := hgo
          go_wp2_with fail
          refine (refDivSmall_any ho.sl (Nat.le_refl _) hr.dg (d := 65536) (by omega) (by omega)).mono ?_
          rintro e w4 ⟨zs, A4, n4, c4, hz, rfl, ho4, b4⟩
          rw [hr.val] at hz
          have hst := Lib.hid (hi.step (j := 16) hk)
          have hb4 := hb.trans (b4.mono hb.size)
          have ho4' := ho4.lower hb.size
          clear hi hb ho b4 ho4 hr
          go_wp2_with fail
          go_roundw
          case rel => exact ⟨k - 16, n4, c4, A4, zs, _, congrArg (Value.int .i64) (by omega), rfl, ho4', hb4, hz, hst.out⟩
          case measure => simp [intOf] <;> omega
        · have hgo' : k < 16 ∨ (16 ≤ k ∧ n2 = 0) := by omega
          rcases hgo' with hg | ⟨hg, rfl⟩
          all_goals
            go_wp2_with fail
            go_loopw [1, 6] (fun nv ov wr => ∃ (k n2 c2 : Nat) (A2 : Option Addr) (O : List Int) (V : Int), nv = .int .i64 (-(k : Int)) ∧ ov = .slice A2 n2 c2 ∧ Own .u32 37 wr w.heap.size A2 n2 c2 O ∧ Below w.heap.size w wr ∧ Row 4294967296 V O ∧ DownI (val 4294967296 xs) m k V) (fun nv _ _ => (-(intOf nv)).toNat)
            case atStart => exact ⟨k, _, c2, A2, O, V, rfl, rfl, ho, hb, hr, hi⟩
            case round =>
              clear hol hl hb ho hr hi
              obtain ⟨k, n2, c2, A2, O, V, rfl, rfl, ho, hb, hr, hi⟩ := hrel
              have hkm := hi.le
              have hol := ho.len
              have hl : n2 ≤ 40 := by
                have := hr.len_le (by decide) (Int.lt_of_le_of_lt hi.small v1.out)
                omega
              by_cases hgo : 0 < k ∧ 0 < n2
              · obtain ⟨hk, hn2⟩ := hgo
                go_wp2_with fail
                refine (refDivSmall_any ho.sl (Nat.le_refl _) hr.dg (d := 2) (by omega) (by omega)).mono ?_
                rintro e w4 ⟨zs, A4, n4, c4, hz, rfl, ho4, b4⟩
                rw [hr.val] at hz
                have hst := Lib.hid (hi.step (j := 1) hk)
                have hb4 := hb.trans (b4.mono hb.size)
                have ho4' := ho4.lower hb.size
                clear hi hb ho b4 ho4 hr
                go_wp2_with fail
                go_roundw
                case rel => exact ⟨k - 1, n4, c4, A4, zs, _, congrArg (Value.int .i64) (by omega), rfl, ho4', hb4, hz, hst.out⟩
                case measure => simp [intOf] <;> omega
              · have hV : V = val 4294967296 xs / 2 ^ m := by
                  rw [← hi.num]
                  rcases Nat.eq_zero_or_pos k with h | h
                  · subst h; simp
                  · obtain rfl : n2 = 0 := by omega
                    have : V = 0 := by rw [← hr.val, List.eq_nil_of_length_eq_zero hol]; rfl
                    rw [this, Int.zero_ediv]
                have hr' : Row 4294967296 (val 4294967296 xs / 2 ^ m) O := by rw [← hV]; exact hr
                clear hV hi hr
                have hgo' : k = 0 ∨ (0 < k ∧ n2 = 0) := by omega
                rcases hgo' with rfl | ⟨hg, rfl⟩
                all_goals
                  go_wp2_with fail
                  go_ret2
                  exact ⟨O, A2, _, c2, 0, .inl ⟨by omega, by rw [show (- -(m : Int)).toNat = m by omega]; exact hr', rfl⟩, rfl, ho, hb⟩

set_option maxHeartbeats 1000000 in
theorem refShift_big {w : World} {B : Nat} {A : Option Addr} {n c : Nat} {xs : List Int} {s : Int} (hs : Sl .u32 w B A n c xs) (hB : B ≤ w.heap.size) (hx : Dg 4294967296 xs) (hn : n ≤ 40) (hs0 : 65536 < s) (hs1 : s ≤ 9223372036854775807) :
    Calls Tryd.prog 27 #[.slice A n c, .int .i64 s] w (ShU w (val 4294967296 xs) s) := by
  go_enter Tryd.func27, Tryd.ntmps27
  go_wp2_with fail
  refine (refTrim_any hs hB hx (by omega)).mono ?_
  rintro e w1 ⟨us, hu, A1, n1, c1, rfl, ho1, b1⟩
  have hol := ho1.len
  by_cases h0 : n1 = 0
  · subst h0
    have hz : val 4294967296 xs = 0 := by rw [← hu.val, List.eq_nil_of_length_eq_zero hol]; rfl
    have hu' : Row 4294967296 (2 ^ s.toNat * val 4294967296 xs) us := by rw [hz, Int.mul_zero]; rw [hz] at hu; exact hu
    have HZ := Lib.hid hz
    clear hz
    go_wp2_with fail
    go_loopw [1, 6] (fun nv ov wr' => nv = .int .i64 s ∧ ov = .slice A1 0 c1 ∧ wr' = w1) (fun _ _ _ => 0)
    case atStart => exact ⟨rfl, rfl, rfl⟩
    case round =>
      obtain ⟨rfl, rfl, rfl⟩ := hrel
      go_wp2_with fail
      go_loopw [1, 6] (fun nv ov wr' => nv = .int .i64 s ∧ ov = .slice A1 0 c1 ∧ wr' = wr) (fun _ _ _ => 0)
      case atStart => exact ⟨rfl, rfl, rfl⟩
      case round =>
        obtain ⟨rfl, rfl, rfl⟩ := hrel
        go_wp2_with fail
        go_loopw [1, 6] (fun nv ov wr' => nv = .int .i64 s ∧ ov = .slice A1 0 c1 ∧ wr' = wr) (fun _ _ _ => 0)
        case atStart => exact ⟨rfl, rfl, rfl⟩
        case round =>
          obtain ⟨rfl, rfl, rfl⟩ := hrel
          go_wp2_with fail
          go_loopw [1, 6] (fun nv ov wr' => nv = .int .i64 s ∧ ov = .slice A1 0 c1 ∧ wr' = wr) (fun _ _ _ => 0)
          case atStart => exact ⟨rfl, rfl, rfl⟩
          case round =>
            obtain ⟨rfl, rfl, rfl⟩ := hrel
            go_wp2_with fail
            go_ret2
            exact ⟨us, A1, 0, c1, 0, .inr (.inl ⟨by omega, .inl HZ.out, hu', rfl⟩), rfl, ho1, b1⟩
  · have hne : val 4294967296 xs ≠ 0 := by
      intro h
      rw [← hu.val] at h
      rw [Tr.zero (by decide) hu.dg hu.tr h] at hol
      exact h0 hol.symm
    have HE := Lib.hid hne
    clear hne
    go_wp2_with fail
    go_ret2
    exact ⟨[], none, 0, 0, 3, .inr (.inr ⟨by omega, HE.out, hs0, rfl, rfl⟩), rfl, Own.nil, b1⟩

theorem refShift_u {w : World} {B : Nat} {A : Option Addr} {n c : Nat} {xs : List Int} {s : Int} (hs : Sl .u32 w B A n c xs) (hB : B ≤ w.heap.size) (hx : Dg 4294967296 xs) (hn : n ≤ 40) (hs0 : -100000 ≤ s) (hs1 : s ≤ 2000 ∨ 65536 < s) (hs2 : s ≤ 9223372036854775807) :
    Calls Tryd.prog 27 #[.slice A n c, .int .i64 s] w (ShU w (val 4294967296 xs) s) := by
  rcases Int.lt_or_le s 0 with h | h
  · obtain ⟨m, rfl⟩ : ∃ m : Nat, s = -(m : Int) := ⟨(-s).toNat, by omega⟩
    exact refShift_down hs hB hx hn (by omega) (by omega)
  · rcases Int.lt_or_le 65536 s with h1 | h1
    · exact refShift_big hs hB hx hn h1 hs2
    · obtain ⟨m, rfl⟩ : ∃ m : Nat, s = (m : Int) := ⟨s.toNat, by omega⟩
      exact refShift_up hs hB hx hn (by omega)
end Go.Proofs.YtgdfjfmgcnbdaaaDoor
