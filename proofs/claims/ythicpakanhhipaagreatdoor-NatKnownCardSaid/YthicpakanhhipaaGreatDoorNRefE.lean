/- tallageref02: Pow, Parse, Put: what each call answers. -/
import Derived.Test.YthicpakanhhipaaGreatDoorNRefD
import Derived.Test.YthicpakanhhipaaGreatDoorMathT
import Derived.Deep.RegionHeld3
namespace Go.Proofs.YthicpakanhhipaaGreatDoor
open Go Go.RowKit

/-- A number and an error, read in whatever memory. -/
def SeenE (k : IntKind) (β : Int) (w : World) (N : Int) (e : Ending) (w' : World) : Prop :=
  ∃ ys A n c, e = .returned (.tuple #[.slice A n c, .int .i64 0]) ∧ Row β N ys ∧ Sl k w' w'.heap.size A n c ys ∧ Below w.heap.size w w'

theorem pow_le_two {b : Int} (hb : 0 ≤ b ∧ b < 4294967296) : ∀ i : Nat, 0 ≤ b ^ i ∧ b ^ i ≤ 2 ^ (32 * i)
  | 0 => by simp
  | i + 1 => by
    have ih := pow_le_two hb i
    rw [Int.pow_succ, show 32 * (i + 1) = 32 * i + 32 by omega, Int.pow_add]
    refine ⟨Int.mul_nonneg ih.1 hb.1, Int.mul_le_mul ih.2 (by omega) hb.1 (by omega)⟩

set_option maxHeartbeats 1000000 in
theorem bpow_neg {w : World} {b n : Int} (hn : n < 0) : Calls Tryz.prog 23 #[.int .u32 b, .int .i64 n] w fun e w' => e = .returned (.tuple #[.slice none 0 0, .int .i64 2]) ∧ w = w' := by
  go_enter Tryz.func23, Tryz.ntmps23
  go_wp2_with fail
  go_ret2
  exact ⟨rfl, rfl⟩
set_option maxHeartbeats 1000000 in
theorem bpow_big {w : World} {b n : Int} (hn : 4096 < n) : Calls Tryz.prog 23 #[.int .u32 b, .int .i64 n] w fun e w' => e = .returned (.tuple #[.slice none 0 0, .int .i64 3]) ∧ w = w' := by
  have h0 : 0 ≤ n := by omega
  go_enter Tryz.func23, Tryz.ntmps23
  go_wp2_with fail
  go_ret2
  exact ⟨rfl, rfl⟩
set_option maxHeartbeats 1000000 in
theorem bpow_ok {w : World} {b : Int} {n : Nat} (hb : 0 ≤ b ∧ b < 4294967296) (hn : n ≤ 4096) : Calls Tryz.prog 23 #[.int .u32 b, .int .i64 n] w (SeenE .u8 2 w (b ^ n)) := by
  go_enter Tryz.func23, Tryz.ntmps23
  go_wp2_with fail
  refine (bsmall_any (by omega)).mono ?_
  rintro e w1 ⟨ys, A, n1, c, rfl, hr, hs, hb1⟩
  have HR0 := Lib.hid hr
  clear hr
  go_wp2_with fail
  go_loopw [6, 7] (fun ov iv wr => ∃ (i n3 c3 : Nat) (A3 : Option Addr) (O : List Int), i ≤ n ∧ iv = .int .i64 i ∧ ov = .slice A3 n3 c3 ∧ Sl .u8 wr wr.heap.size A3 n3 c3 O ∧ Below w.heap.size w wr ∧ Row 2 (b ^ i) O) (fun _ iv _ => n - (intOf iv).toNat)
  case atStart => exact ⟨0, n1, c, A, ys, by omega, rfl, rfl, hs, hb1, by simpa using HR0.out⟩
  case round =>
    clear HR0 hs hb1
    obtain ⟨i, n3, c3, A3, O, hi, rfl, rfl, ho, hbw, hr⟩ := hrel
    have hl3 : n3 ≤ 32 * i + 1 := by
      rw [← ho.len]; exact row_len hr (Int.lt_of_le_of_lt (pow_le_two hb i).2 (by rw [Int.pow_succ]; have := pow_pos' (β := 2) (by decide) (32 * i); omega))
    by_cases hend : n ≤ i
    · obtain rfl : n = i := by omega
      have HR := Lib.hid hr
      clear hr
      go_wp2_with fail
      go_ret2
      exact ⟨_, A3, n3, c3, rfl, HR.out, ho, hbw⟩
    · have hlt : (i : Int) < n := by omega
      have dO := hr.dg
      have vO := Lib.hid hr.val
      clear hr
      go_wp2_with fail
      refine (bsmall_any hb).mono ?_
      rintro e w2 ⟨zs, A4, n4, c4, rfl, hr4, hs4, hb4⟩
      have hl4 : n4 ≤ 32 := by rw [← hs4.len]; exact row_len hr4 (by omega)
      have d4 := hr4.dg
      have v4 := Lib.hid hr4.val
      have hbw2 := hbw.trans (hb4.mono hbw.size)
      have ho2 := (ho.below hb4 (Nat.le_refl _)).more hb4.size
      clear hr4 hbw hb4 ho
      go_wp2_with fail
      refine (bmul_any ho2 hs4 (Nat.le_refl _) dO d4 (by omega) (by omega)).mono ?_
      rintro e w3 ⟨O2, A5, n5, c5, rfl, hr5, hs5, hb5⟩
      have HR5 := Lib.hid (show Row 2 (b ^ (i + 1)) O2 by rw [Int.pow_succ, ← vO.out]; rw [v4.out] at hr5; exact hr5)
      have hbw3 := hbw2.trans (hb5.mono hbw2.size)
      clear hr5 hb5 hbw2 ho2 hs4 vO v4 dO d4
      go_wp2_with fail
      go_roundw
      case rel => exact ⟨i + 1, n5, c5, A5, O2, by omega, by go_num, rfl, hs5, hbw3, HR5.out⟩
      case measure => simp [intOf] <;> omega

/-- What 'Parse' answers. -/
def ParseB (w : World) (s : ByteArray) (e : Ending) (w' : World) : Prop :=
  (¬ Written s ∧ e = .returned (.tuple #[.slice none 0 0, .int .i64 60]) ∧ Below w.heap.size w w') ∨
  (Written s ∧ 4096 < s.size ∧ e = .returned (.tuple #[.slice none 0 0, .int .i64 3]) ∧ Below w.heap.size w w') ∨
  (Written s ∧ s.size ≤ 4096 ∧ SeenE .u8 2 w (dval s.data.toList) e w')

set_option maxHeartbeats 2000000 in
theorem bparse_any {w : World} (s : ByteArray) (hsz : s.size ≤ maxLen) : Calls Tryz.prog 21 #[.string s] w (ParseB w s) := by
  unfold maxLen at hsz
  by_cases h0 : s.size = 0
  · have hemp : s.toList.isEmpty = true := by
      rw [ByteArray.toList_eq, List.isEmpty_iff]; exact List.eq_nil_of_length_eq_zero (by simpa using h0)
    have hno : ¬ Written s := fun h => by have := h.1; omega
    have HN := Lib.hid hno
    clear hno hsz h0
    go_enter Tryz.func21, Tryz.ntmps21
    go_wp2_with fail
    go_ret2
    exact .inl ⟨HN.out, rfl, Below.refl _ _⟩
  · have hemp : s.toList.isEmpty = false := by
      rw [ByteArray.toList_eq, ← Bool.not_eq_true, List.isEmpty_iff]
      intro h
      apply h0
      have := congrArg List.length h
      simpa using this
    have hp : 0 < s.size := by omega
    go_enter Tryz.func21, Tryz.ntmps21
    by_cases hl1 : ∃ h : 1 < s.size, (s[0].toNat : Int) = 48
    · obtain ⟨hs1, h48⟩ := hl1
      have hno : ¬ Written s := fun h => h.2.1 hs1 h48
      have HN := Lib.hid hno
      have h48b : ((s[0].toNat : Int) == 48) = true := beq_iff_eq.2 h48
      clear hno h48
      go_wp2_with fail
      go_ret2
      exact .inl ⟨HN.out, rfl, Below.refl _ _⟩
    · have hlead : ∀ h : 1 < s.size, (s[0].toNat : Int) ≠ 48 := fun h e => hl1 ⟨h, e⟩
      have HL := Lib.hid hlead
      by_cases hs1 : 1 < s.size
      case' pos => have h48b : ((s[0].toNat : Int) == 48) = false := beq_eq_false_iff_ne.2 (hlead hs1)
      all_goals
        clear hlead hl1
        go_wp2_with fail
        go_loop [4] (fun iv => ∃ k : Nat, k ≤ s.size ∧ iv = .int .i64 k ∧ ∀ c ∈ s.data.toList.take k, isDig c) (fun iv => s.size - (intOf iv).toNat)
        case atStart => exact ⟨0, by omega, rfl, by simp⟩
        case round =>
          obtain ⟨k, hk, rfl, hd⟩ := hrel
          by_cases hlt : k < s.size
          · by_cases hc : isDig s[k]
            · have hnx := Lib.hid (show ∀ c ∈ s.data.toList.take (k + 1), isDig c by
                rw [take_snoc s k hlt]
                intro c h
                rcases List.mem_append.1 h with h | h
                · exact hd c h
                · rw [List.mem_singleton.1 h]; exact hc)
              have hc1 : ¬ (s[k].toNat : Int) < 48 := by have := hc.1; omega
              have hc2 : ¬ 57 < (s[k].toNat : Int) := by have := hc.2; omega
              clear hd hc
              go_wp2_with fail
              go_round
              case rel => exact ⟨k + 1, by omega, by go_num, hnx.out⟩
              case measure => simp [intOf] <;> omega
            · have hno : ¬ Written s := fun h => hc (h.2.2 _ (mem_at s k hlt))
              have HN := Lib.hid hno
              clear hno hd
              by_cases hc1 : (s[k].toNat : Int) < 48
              case' neg => have hc2 : 57 < (s[k].toNat : Int) := by unfold isDig at hc; omega
              all_goals
                clear hc
                go_wp2_with fail
                go_ret2
                exact .inl ⟨HN.out, rfl, Below.refl _ _⟩
          · have HW := Lib.hid (show Written s from ⟨hp, HL.out, by rw [List.take_of_length_le (by simp; omega)] at hd; exact hd⟩)
            clear hd
            have HV := Lib.hid (dval_lt s HW.out.2.2)
            by_cases hbig : 4096 < s.size
            · go_wp2_with fail
              all_goals go_ret2
              all_goals exact .inr (.inl ⟨HW.out, hbig, rfl, Below.refl _ _⟩)
            · go_wp2_with fail
              go_loopw [5, 6] (fun ov iv wr => ∃ (i n3 c3 : Nat) (A3 : Option Addr) (O : List Int), i ≤ s.size ∧ iv = .int .i64 i ∧ ov = .slice A3 n3 c3 ∧ Sl .u8 wr wr.heap.size A3 n3 c3 O ∧ Below w.heap.size w wr ∧ Row 2 (dval (s.data.toList.take i)) O) (fun _ iv _ => s.size - (intOf iv).toNat)
              case atStart => exact ⟨0, 0, 0, none, [], by omega, rfl, rfl, Sl.nil, Below.refl _ _, ⟨Dg.nil, Tr.nil, rfl⟩⟩
              case round =>
                obtain ⟨i, n3, c3, A3, O, hi, rfl, rfl, ho, hbw, hr⟩ := hrel
                by_cases hend : s.size ≤ i
                · obtain rfl : s.size = i := by omega
                  rw [List.take_of_length_le (by simp)] at hr
                  have HR := Lib.hid hr
                  clear hr
                  go_wp2_with fail
                  go_ret2
                  exact .inr (.inr ⟨HW.out, by omega, _, A3, n3, c3, rfl, HR.out, ho, hbw⟩)
                · have hil : i < s.size := by omega
                  have hli : n3 ≤ 4 * i := by rw [← ho.len]; exact row_len hr (HV.out i hi).2
                  have hln : ∀ Om : List Int, Row 2 (dval (s.data.toList.take i) * 10) Om → Om.length ≤ 4 * i + 4 := fun Om h => row_len h (by have := HV.out i hi; rw [Int.pow_add]; omega)
                  have HLN := Lib.hid hln
                  have HD := Lib.hid (HW.out.2.2 _ (mem_at s i hil))
                  have HT := Lib.hid (take_snoc s i hil)
                  clear hln
                  have dO := hr.dg
                  have vO := Lib.hid hr.val
                  have h0S : Below wr.heap.size wr wr := Below.refl _ _
                  clear hr
                  go_wp2_with fail
                  go_region_held3 (fun W => Below wr.heap.size wr W)
                    (first | assumption | exact Below.drew (by assumption) | exact Below.trans (by assumption) (Below.mono (by assumption) (Below.size (by assumption))))
                    (first
                      | (go_at_call 44; go_must (refine (bsmall_any (by first | omega | (rw [IntKind.wrap_u32]; omega))).mono ?_; rintro e wS ⟨zs, Az, nz, cz, rfl, hrz, hsz', hbz⟩))
                      | (go_at_call 9; go_must (refine (bmul_any ((ho.below (show Below wr.heap.size wr _ by assumption) (Nat.le_refl _)).more (Below.size (by assumption))) hsz' (Nat.le_refl _) dO hrz.dg (by omega) (by have := row_len (k := 4) hrz (by decide); have := hsz'.len; omega)).mono ?_; rintro e wM ⟨Om, Am, nm, cm, rfl, hrm0, hsm, hbm⟩; have hrm : Row 2 (dval (s.data.toList.take i) * 10) Om := (by rw [vO.out, hrz.val] at hrm0; exact hrm0); clear hrm0))
                      | (go_at_call 30; go_must (refine (badd_any ((hsm.below hbz (Nat.le_refl _)).more hbz.size) hsz' (Nat.le_refl _) hrm.dg hrz.dg (by have := HLN.out _ hrm; have := hsm.len; omega) (by have := row_len (k := 32) hrz (by rw [IntKind.wrap_u32]; omega); have := hsz'.len; omega)).mono ?_; rintro e wA ⟨Oa, Aa, na, ca, rfl, hra, hsa, hba⟩)))
                  all_goals
                    have HR := Lib.hid (show Row 2 (dval (s.data.toList.take (i + 1))) Oa by
                      rw [hrm.val, hrz.val, dig_wrap HD.out] at hra
                      rw [HT.out, dval_snoc, Int.mul_comm]
                      exact hra)
                    have hbA : Below w.heap.size w wA := hbw.trans (Below.mono (show Below wr.heap.size wr wA by assumption) hbw.size)
                    clear hra hrm hrz hsm hbz hba hsz' hbm ho
                    go_wp2_with fail
                    go_roundw
                    case rel => exact ⟨i + 1, na, ca, Aa, Oa, by omega, by go_num, rfl, hsa, hbA, HR.out⟩
                    case measure => simp [intOf] <;> omega
end Go.Proofs.YthicpakanhhipaaGreatDoor
