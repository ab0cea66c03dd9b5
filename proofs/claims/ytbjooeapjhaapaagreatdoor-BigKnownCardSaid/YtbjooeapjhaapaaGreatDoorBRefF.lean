/- tallageref03: Parse: what it answers. -/
import Derived.Test.YtbjooeapjhaapaaGreatDoorBigL
import Derived.Test.YtbjooeapjhaapaaGreatDoorBRefD
namespace Go.Proofs.YtbjooeapjhaapaaGreatDoor
open Go Go.RowKit

/-- Behind the head: the text t, of a sign b. -/
theorem mulP_arg {w W : World} {A : Option Addr} {n c : Nat} {X : List Int} {x : Int} (hs : Sl .u32 w w.heap.size A n c X) (rX : Row 4294967296 x X) (hn : n ≤ 1000000) (hS : Below w.heap.size w W) :
    Calls Tryz.prog 65 #[.slice A n c, .int .u32 10] W fun e W' => ∃ ys A' n' c', e = .returned (.slice A' n' c') ∧ Row 4294967296 (10 * x) ys ∧ Sl .u32 W' W'.heap.size A' n' c' ys ∧ Below W.heap.size W W' := by
  refine (refMulSmall_any ((hs.below hS (Nat.le_refl _)).more hS.size) (Nat.le_refl _) rX.dg (m := 10) (by omega) (by omega)).mono ?_
  rintro e W' ⟨ys, hr, A', n', c', rfl, ho, hb⟩
  rw [rX.val] at hr
  exact ⟨ys, A', n', c', rfl, hr, ho.sl, hb⟩
theorem addP_arg {w W : World} {A A2 : Option Addr} {n c : Nat} {Y : List Int} {x d : Int} (hs : Sl .u32 W W.heap.size A n c Y) (ht : Sl .u32 W W.heap.size A2 1 1 [d]) (rY : Row 4294967296 (10 * x) Y) (hx : x < 4294967296 ^ 5000) (hd : 0 ≤ d ∧ d < 4294967296) (hS : Below w.heap.size w W) :
    Calls Tryz.prog 55 #[.slice A n c, .slice A2 1 1] W fun e W' => ∃ ys A' n' c', e = .returned (.slice A' n' c') ∧ Row 4294967296 (10 * x + d) ys ∧ Own .u32 66 W' w.heap.size A' n' c' ys ∧ Below W.heap.size W W' := by
  have hl : n ≤ 5001 := by
    rw [← hs.len]
    refine rY.len_le (by decide) ?_
    rw [show (4294967296 : Int) ^ 5001 = 4294967296 ^ 5000 * 4294967296 from Int.pow_succ _ _]
    have := pow_pos' (show (0 : Int) < 4294967296 by decide) 5000
    omega
  refine (refAdd_any hs ht (Nat.le_refl _) rY.dg (dg1 hd) (by omega) (by omega)).mono ?_
  rintro e W' ⟨ys, hr, A', n', c', rfl, ho, hb⟩
  have hv : val 4294967296 Y + val 4294967296 [d] = 10 * x + d := by rw [rY.val]; simp [val]
  rw [hv] at hr
  exact ⟨ys, A', n', c', rfl, hr, ho.lower hS.size, hb⟩
theorem dval_small (t : ByteArray) (h : ∀ c ∈ t.data.toList, isDig c) {j : Nat} (hj : j ≤ t.size) (ht : t.size ≤ 4096) : dval (t.data.toList.take j) < 4294967296 ^ 5000 := by
  refine Int.lt_of_lt_of_le (dval_lt t h j hj).2 ?_
  rw [show (4294967296 : Int) = 2 ^ 32 by decide, ← Int.pow_mul]
  exact pow_mono (by decide) (by omega)
theorem zero_text {t : ByteArray} (h : Written t) : (t.toList == [48]) = decide (dval t.data.toList = 0) := by
  rw [ByteArray.toList_eq]
  have hb := putL_back h
  by_cases h0 : dval t.data.toList = 0
  · rw [h0] at hb
    rw [decide_eq_true h0, ← hb]
    rfl
  · rw [decide_eq_false h0, beq_eq_false_iff_ne]
    intro e
    apply h0
    rw [e]
    rfl
set_option maxRecDepth 20000 in
set_option maxHeartbeats 8000000 in
theorem parse3_any {w : World} (s : ByteArray) (hsz : s.size ≤ maxLen) : Calls Tryz.prog 33 #[.string s] w (ParseI w s) := by
  unfold maxLen at hsz
  unfold ParseI
  obtain ⟨b0, b1, b2, b3, hlt, hb0⟩ := box_new (w := w) (v0 := .bool false) (v1 := .slice none 0 0) (t := 26) (Below.refl _ _)
  have BX := Lib.hid (show Boxed (w.alloc (.cells #[.bool false, .slice none 0 0] 26)) w.heap.size (.bool false) (.slice none 0 0) from ⟨b0, b1, b2, b3⟩)
  have B0 := Lib.hid hb0
  have HL := Lib.hid hlt
  clear hb0 b0 b1 b2 b3 hlt
  by_cases hs0 : s.size = 0
  · rw [headB_no (fun h => by omega)]
    have hemp : s.toList.isEmpty = true := by
      rw [ByteArray.toList_eq, List.isEmpty_iff]; exact List.eq_nil_of_length_eq_zero (by simpa using hs0)
    have HN := Lib.hid (show ¬ Written s from fun h => by have := h.1; omega)
    go_enter Tryz.func33, Tryz.ntmps33
    go_upto_region 4 with fail
    generalize w.alloc (.cells #[.bool false, .slice none 0 0] 26) = W0 at B0 BX HL ⊢
    obtain ⟨q0, q1, q2, q3⟩ := BX.out
    go_wp2_with fail
    refine bodyPost_ret (v := .tuple #[.agg #[.bool false, .slice none 0 0], .int .i64 60]) ?_ rfl (.inl ⟨HN.out, rfl, (B0.out.setCell (p := ⟨w.heap.size, 0, none⟩) (Nat.le_refl _) _).setCell (p := ⟨w.heap.size, 1, none⟩) (Nat.le_refl _) _⟩)
    simp only [results, Tryz.results33]
    go_simp
  · have hp : 0 < s.size := by omega
    by_cases h45 : (s[0].toNat : Int) = 45
    case' pos =>
      rw [headB_yes hp h45]
      have h1 : (1 : Int) ≤ s.size := by omega
      have htsz : (s.extract 1 s.size).size ≤ 2 ^ 63 - 1 := by simp; omega
      obtain ⟨t, ht⟩ : ∃ t, s.extract 1 s.size = t := ⟨_, rfl⟩
      rw [ht] at htsz ⊢
      clear hs0
      go_enter Tryz.func33, Tryz.ntmps33
      go_upto_region 4 with fail
      obtain ⟨bb, hbb⟩ : ∃ bb, bb = true := ⟨_, rfl⟩
      clear ht h1 h45
    case' neg =>
      rw [headB_no (fun _ => h45)]
      have h45' : ((s[0].toNat : Int) == 45) = false := beq_eq_false_iff_ne.2 h45
      obtain ⟨t, rfl⟩ : ∃ t, t = s := ⟨s, rfl⟩
      have htsz := hsz
      clear h45
      go_enter Tryz.func33, Tryz.ntmps33
      go_upto_region 4 with fail
      obtain ⟨bb, hbb⟩ : ∃ bb, bb = false := ⟨_, rfl⟩
      clear hs0 h45'
    all_goals
      generalize w.alloc (.cells #[.bool false, .slice none 0 0] 26) = W0 at B0 BX HL ⊢
      obtain ⟨q0, q1, q2, q3⟩ := BX.out
      by_cases h0 : t.size = 0
      · have hemp : t.toList.isEmpty = true := by
          rw [ByteArray.toList_eq, List.isEmpty_iff]; exact List.eq_nil_of_length_eq_zero (by simpa using h0)
        have HN := Lib.hid (show ¬ Written t from fun h => by have := h.1; omega)
        clear htsz h0
        go_wp2_with fail
        refine bodyPost_ret (v := .tuple #[.agg #[.bool false, .slice none 0 0], .int .i64 60]) ?_ rfl (.inl ⟨HN.out, rfl, (B0.out.setCell (p := ⟨w.heap.size, 0, none⟩) (Nat.le_refl _) _).setCell (p := ⟨w.heap.size, 1, none⟩) (Nat.le_refl _) _⟩)
        simp only [results, Tryz.results33]
        go_simp
      · have hemp : t.toList.isEmpty = false := by
          rw [ByteArray.toList_eq, ← Bool.not_eq_true, List.isEmpty_iff]
          intro h
          apply h0
          have := congrArg List.length h
          simpa using this
        have hp : 0 < t.size := by omega
        by_cases hl1 : ∃ h : 1 < t.size, (t[0].toNat : Int) = 48
        · obtain ⟨hs1, h48⟩ := hl1
          have HN := Lib.hid (show ¬ Written t from fun h => h.2.1 hs1 h48)
          have h48b : ((t[0].toNat : Int) == 48) = true := beq_iff_eq.2 h48
          clear h48
          go_wp2_with fail
          refine bodyPost_ret (v := .tuple #[.agg #[.bool false, .slice none 0 0], .int .i64 60]) ?_ rfl (.inl ⟨HN.out, rfl, (B0.out.setCell (p := ⟨w.heap.size, 0, none⟩) (Nat.le_refl _) _).setCell (p := ⟨w.heap.size, 1, none⟩) (Nat.le_refl _) _⟩)
          simp only [results, Tryz.results33]
          go_simp
        · have hlead : ∀ h : 1 < t.size, (t[0].toNat : Int) ≠ 48 := fun h e => hl1 ⟨h, e⟩
          have HLD := Lib.hid hlead
          by_cases hs1 : 1 < t.size
          case' pos => have h48b : ((t[0].toNat : Int) == 48) = false := beq_eq_false_iff_ne.2 (hlead hs1)
          case' neg => rcases h48b : ((t[0].toNat : Int) == 48) with _ | _
          all_goals
            clear hlead hl1
            go_wp2_with fail
            go_loop [6] (fun iv => ∃ k : Nat, k ≤ t.size ∧ iv = .int .i64 k ∧ ∀ c ∈ t.data.toList.take k, isDig c) (fun iv => t.size - (intOf iv).toNat)
            case atStart => exact ⟨0, by omega, rfl, by simp⟩
            case round =>
              obtain ⟨k, hk, rfl, hd⟩ := hrel
              by_cases hlt : k < t.size
              · by_cases hc : isDig t[k]
                · have hnx := Lib.hid (show ∀ c ∈ t.data.toList.take (k + 1), isDig c by
                    rw [take_snoc t k hlt]
                    intro c h
                    rcases List.mem_append.1 h with h | h
                    · exact hd c h
                    · rw [List.mem_singleton.1 h]; exact hc)
                  have hc1 : ¬ (t[k].toNat : Int) < 48 := by have := hc.1; omega
                  have hc2 : ¬ 57 < (t[k].toNat : Int) := by have := hc.2; omega
                  clear hd hc
                  go_wp2_with fail
                  go_round
                  case rel => exact ⟨k + 1, by omega, by go_num, hnx.out⟩
                  case measure => simp [intOf] <;> omega
                · have HN := Lib.hid (show ¬ Written t from fun h => hc (h.2.2 _ (mem_at t k hlt)))
                  clear hd
                  by_cases hc1 : (t[k].toNat : Int) < 48
                  case' neg => have hc2 : 57 < (t[k].toNat : Int) := by unfold isDig at hc; omega
                  all_goals
                    clear hc
                    go_wp2_with fail
                    refine bodyPost_ret (v := .tuple #[.agg #[.bool false, .slice none 0 0], .int .i64 60]) ?_ rfl (.inl ⟨HN.out, rfl, (B0.out.setCell (p := ⟨w.heap.size, 0, none⟩) (Nat.le_refl _) _).setCell (p := ⟨w.heap.size, 1, none⟩) (Nat.le_refl _) _⟩)
                    simp only [results, Tryz.results33]
                    go_simp
              · have HW := Lib.hid (show Written t from ⟨hp, HLD.out, by rw [List.take_of_length_le (by simp; omega)] at hd; exact hd⟩)
                clear hd
                by_cases hbig : 4096 < t.size
                · go_wp2_with fail
                  all_goals
                    refine bodyPost_ret (v := .tuple #[.agg #[.bool false, .slice none 0 0], .int .i64 3]) ?_ rfl (.inr (.inl ⟨HW.out, hbig, rfl, (B0.out.setCell (p := ⟨w.heap.size, 0, none⟩) (Nat.le_refl _) _).setCell (p := ⟨w.heap.size, 1, none⟩) (Nat.le_refl _) _⟩))
                    simp only [results, Tryz.results33]
                    go_simp
                · have hz := zero_text HW.out
                  by_cases hd0 : dval t.data.toList = 0
                  · rw [decide_eq_true hd0] at hz
                    have HD0 := Lib.hid hd0
                    clear hd0
                    first
                      | (have hT : bb = true := hbb
                         clear hbb
                         go_wp2_with fail
                         refine bodyPost_ret (v := .tuple #[.agg #[.bool false, .slice none 0 0], .int .i64 2]) ?_ rfl (.inr (.inr (.inl ⟨HW.out, by omega, rfl, HD0.out, rfl, (B0.out.setCell (p := ⟨w.heap.size, 0, none⟩) (Nat.le_refl _) _).setCell (p := ⟨w.heap.size, 1, none⟩) (Nat.le_refl _) _⟩)))
                         simp only [results, Tryz.results33]
                         go_simp
                         done)
                      | (have hF : bb = false := hbb
                         have HNN := Lib.hid (show bb = true → dval t.data.toList ≠ 0 from fun h => absurd (hF.symm.trans h) (by decide))
                         have htl : t.data.toList.length = t.size := by simp
                         go_wp2_with fail
                         clear hz
                         go_loopw [5, 7] (fun ov iv wr => ∃ (i n3 c3 : Nat) (A3 : Option Addr) (O : List Int), i ≤ t.size ∧ iv = .int .i64 i ∧ ov = .slice A3 n3 c3 ∧ Sl .u32 wr wr.heap.size A3 n3 c3 O ∧ Below W0.heap.size W0 wr ∧ Row 4294967296 (dval (t.data.toList.take i)) O) (fun _ iv _ => t.size - (intOf iv).toNat)
                         case atStart => exact ⟨0, 0, 0, none, [], Nat.zero_le _, rfl, rfl, Sl.nil, Below.refl _ _, ⟨Dg.nil, Tr.nil, by simp [dval, val]⟩⟩
                         case round =>
                           obtain ⟨i, n3, c3, A3, O, hi, rfl, rfl, ho, hbw, hr⟩ := hrel
                           have hl3 : n3 ≤ 5000 := by
                             rw [← ho.len]
                             exact hr.len_le (by decide) (dval_small t HW.out.2.2 hi (by omega))
                           by_cases hend : t.size ≤ i
                           · obtain rfl : t.size = i := by omega
                             rw [List.take_of_length_le (by omega)] at hr
                             have HR := Lib.hid hr
                             have HBX := Lib.hid (BX.out.below hbw HL.out)
                             have HB1 := Lib.hid (B0.out.trans (hbw.mono B0.out.size))
                             have HL1 := Lib.hid (Nat.lt_of_lt_of_le HL.out hbw.size)
                             have hzz := hbw.size
                             clear hr hbw
                             go_wp2_with fail
                             refine (made3_any ho (Nat.le_refl _) HR.out.dg (by omega)).mono ?_
                             rintro e w4 ⟨sc, Z, A7, n7, c7, hW, rfl, hoo, hb⟩
                             rw [HR.out.val] at hW
                             have HW7 := Lib.hid hW
                             have HO7 := Lib.hid hoo
                             have HB4 := Lib.hid (HB1.out.trans (hb.mono HB1.out.size))
                             clear q0 q1 q2 q3 hW hoo
                             obtain ⟨q0, q1, q2, q3⟩ := HBX.out.below hb HL1.out
                             clear hb
                             go_wp2_with fail
                             refine bodyPost_ret (v := .tuple #[.agg #[.bool sc, .slice A7 n7 c7], .int .i64 0]) ?_ rfl (.inr (.inr (.inr ⟨HW.out, by omega, fun h => HNN.out (hbb.trans h), sc, Z, A7, n7, c7, HW7.out, rfl, ((HO7.out.box HL1.out 0 _).box HL1.out 1 _).lower (by have := HL.out; omega), (HB4.out.setCell (p := ⟨w.heap.size, 0, none⟩) (Nat.le_refl _) _).setCell (p := ⟨w.heap.size, 1, none⟩) (Nat.le_refl _) _⟩)))
                             simp only [results, Tryz.results33]
                             go_simp
                           · have hil : i < t.size := by omega
                             have HD := HW.out.2.2 _ (mem_at t i hil)
                             have HT := Lib.hid (take_snoc t i hil)
                             have HXS := Lib.hid (dval_small t HW.out.2.2 (show i ≤ t.size by omega) (by omega))
                             have d0 : 0 ≤ (t[i].toNat : Int) - 48 ∧ (t[i].toNat : Int) - 48 < 4294967296 := by unfold isDig at HD; omega
                             have hw8 : IntKind.u8.wrap ((t[i].toNat : Int) - 48) = (t[i].toNat : Int) - 48 := by unfold isDig at HD; rw [IntKind.wrap_u8]; omega
                             have hw32 : IntKind.u32.wrap ((t[i].toNat : Int) - 48) = (t[i].toNat : Int) - 48 := by rw [IntKind.wrap_u32]; omega
                             have RO := Lib.hid hr
                             have HBW := Lib.hid hbw
                             have h0S : Below wr.heap.size wr wr := Below.refl _ _
                             clear hr hbw HD
                             go_wp2_with fail
                             go_region_held3 (fun W => Below wr.heap.size wr W)
                               (first
                                 | assumption
                                 | exact Below.drew (by assumption)
                                 | exact Below.trans (by assumption) (Below.mono (by assumption) (Below.size (by assumption)))
                                 | exact Below.alloc (by assumption) (Below.size (by assumption)) _)
                               (first
                                 | (go_at_call 65; go_must (refine (mulP_arg (w := wr) ho RO.out (by omega) (show Below wr.heap.size wr _ by assumption)).mono ?_; rintro e wS ⟨ys, Az, nz, cz, rfl, rY, sY, hbz2⟩))
                                 | (go_at_call 55; go_must (refine (addP_arg (w := wr) (d := (t[i].toNat : Int) - 48) (Y := ys)
                                     (by first | exact sY | exact ((sY.alloc (Nat.le_refl _) _).more (by rw [size_one]; exact Nat.le_succ _)))
                                     (by first | (refine Sl.more ?_ (Nat.le_of_eq (size_one _ _).symm); exact lit1 wS wS.heap.size rfl _ _) | exact (((lit1 wr wr.heap.size rfl _ 66).drew1).below hbz2 (by show _ ≤ (wr.alloc _).heap.size; rw [size_one]; exact Nat.le_refl _)).more (Nat.le_trans (by show _ ≤ (wr.alloc _).heap.size; rw [size_one]; exact Nat.le_refl _) hbz2.size))
                                     rY HXS.out d0 (show Below wr.heap.size wr _ by assumption)).mono ?_; rintro e wA ⟨zs, Aa, na, ca, rfl, rZ, oZ, hbz3⟩)))
                             all_goals
                               have RZ := Lib.hid (show Row 4294967296 (dval (t.data.toList.take (i + 1))) zs by rw [HT.out, dval_snoc]; exact rZ)
                               have B5 := Lib.hid (HBW.out.trans ((show Below wr.heap.size wr wA by assumption).mono HBW.out.size))
                               have oZ' := Lib.hid oZ.sl
                               clear rZ oZ hbz3 h0S sY hbz2 rY ho
                               go_wp2_with fail
                               go_roundw
                               case rel => exact ⟨i + 1, na, ca, Aa, zs, by omega, by go_num, rfl, oZ'.out, B5.out, RZ.out⟩
                               case measure => simp [intOf] <;> omega
                         done)
                  · rw [decide_eq_false hd0] at hz
                    have HNN := Lib.hid (show bb = true → dval t.data.toList ≠ 0 from fun _ => hd0)
                    clear hd0
                    have htl : t.data.toList.length = t.size := by simp
                    go_wp2_with fail
                    clear hz
                    go_loopw [5, 7] (fun ov iv wr => ∃ (i n3 c3 : Nat) (A3 : Option Addr) (O : List Int), i ≤ t.size ∧ iv = .int .i64 i ∧ ov = .slice A3 n3 c3 ∧ Sl .u32 wr wr.heap.size A3 n3 c3 O ∧ Below W0.heap.size W0 wr ∧ Row 4294967296 (dval (t.data.toList.take i)) O) (fun _ iv _ => t.size - (intOf iv).toNat)
                    case atStart => exact ⟨0, 0, 0, none, [], Nat.zero_le _, rfl, rfl, Sl.nil, Below.refl _ _, ⟨Dg.nil, Tr.nil, by simp [dval, val]⟩⟩
                    case round =>
                      obtain ⟨i, n3, c3, A3, O, hi, rfl, rfl, ho, hbw, hr⟩ := hrel
                      have hl3 : n3 ≤ 5000 := by
                        rw [← ho.len]
                        exact hr.len_le (by decide) (dval_small t HW.out.2.2 hi (by omega))
                      by_cases hend : t.size ≤ i
                      · obtain rfl : t.size = i := by omega
                        rw [List.take_of_length_le (by omega)] at hr
                        have HR := Lib.hid hr
                        have HBX := Lib.hid (BX.out.below hbw HL.out)
                        have HB1 := Lib.hid (B0.out.trans (hbw.mono B0.out.size))
                        have HL1 := Lib.hid (Nat.lt_of_lt_of_le HL.out hbw.size)
                        have hzz := hbw.size
                        clear hr hbw
                        go_wp2_with fail
                        refine (made3_any ho (Nat.le_refl _) HR.out.dg (by omega)).mono ?_
                        rintro e w4 ⟨sc, Z, A7, n7, c7, hW, rfl, hoo, hb⟩
                        rw [HR.out.val] at hW
                        have HW7 := Lib.hid hW
                        have HO7 := Lib.hid hoo
                        have HB4 := Lib.hid (HB1.out.trans (hb.mono HB1.out.size))
                        clear q0 q1 q2 q3 hW hoo
                        obtain ⟨q0, q1, q2, q3⟩ := HBX.out.below hb HL1.out
                        clear hb
                        go_wp2_with fail
                        refine bodyPost_ret (v := .tuple #[.agg #[.bool sc, .slice A7 n7 c7], .int .i64 0]) ?_ rfl (.inr (.inr (.inr ⟨HW.out, by omega, fun h => HNN.out (hbb.trans h), sc, Z, A7, n7, c7, HW7.out, rfl, ((HO7.out.box HL1.out 0 _).box HL1.out 1 _).lower (by have := HL.out; omega), (HB4.out.setCell (p := ⟨w.heap.size, 0, none⟩) (Nat.le_refl _) _).setCell (p := ⟨w.heap.size, 1, none⟩) (Nat.le_refl _) _⟩)))
                        simp only [results, Tryz.results33]
                        go_simp
                      · have hil : i < t.size := by omega
                        have HD := HW.out.2.2 _ (mem_at t i hil)
                        have HT := Lib.hid (take_snoc t i hil)
                        have HXS := Lib.hid (dval_small t HW.out.2.2 (show i ≤ t.size by omega) (by omega))
                        have d0 : 0 ≤ (t[i].toNat : Int) - 48 ∧ (t[i].toNat : Int) - 48 < 4294967296 := by unfold isDig at HD; omega
                        have hw8 : IntKind.u8.wrap ((t[i].toNat : Int) - 48) = (t[i].toNat : Int) - 48 := by unfold isDig at HD; rw [IntKind.wrap_u8]; omega
                        have hw32 : IntKind.u32.wrap ((t[i].toNat : Int) - 48) = (t[i].toNat : Int) - 48 := by rw [IntKind.wrap_u32]; omega
                        have RO := Lib.hid hr
                        have HBW := Lib.hid hbw
                        have h0S : Below wr.heap.size wr wr := Below.refl _ _
                        clear hr hbw HD
                        go_wp2_with fail
                        go_region_held3 (fun W => Below wr.heap.size wr W)
                          (first
                            | assumption
                            | exact Below.drew (by assumption)
                            | exact Below.trans (by assumption) (Below.mono (by assumption) (Below.size (by assumption)))
                            | exact Below.alloc (by assumption) (Below.size (by assumption)) _)
                          (first
                            | (go_at_call 65; go_must (refine (mulP_arg (w := wr) ho RO.out (by omega) (show Below wr.heap.size wr _ by assumption)).mono ?_; rintro e wS ⟨ys, Az, nz, cz, rfl, rY, sY, hbz2⟩))
                            | (go_at_call 55; go_must (refine (addP_arg (w := wr) (d := (t[i].toNat : Int) - 48) (Y := ys)
                                (by first | exact sY | exact ((sY.alloc (Nat.le_refl _) _).more (by rw [size_one]; exact Nat.le_succ _)))
                                (by first | (refine Sl.more ?_ (Nat.le_of_eq (size_one _ _).symm); exact lit1 wS wS.heap.size rfl _ _) | exact (((lit1 wr wr.heap.size rfl _ 66).drew1).below hbz2 (by show _ ≤ (wr.alloc _).heap.size; rw [size_one]; exact Nat.le_refl _)).more (Nat.le_trans (by show _ ≤ (wr.alloc _).heap.size; rw [size_one]; exact Nat.le_refl _) hbz2.size))
                                rY HXS.out d0 (show Below wr.heap.size wr _ by assumption)).mono ?_; rintro e wA ⟨zs, Aa, na, ca, rfl, rZ, oZ, hbz3⟩)))
                        all_goals
                          have RZ := Lib.hid (show Row 4294967296 (dval (t.data.toList.take (i + 1))) zs by rw [HT.out, dval_snoc]; exact rZ)
                          have B5 := Lib.hid (HBW.out.trans ((show Below wr.heap.size wr wA by assumption).mono HBW.out.size))
                          have oZ' := Lib.hid oZ.sl
                          clear rZ oZ hbz3 h0S sY hbz2 rY ho
                          go_wp2_with fail
                          go_roundw
                          case rel => exact ⟨i + 1, na, ca, Aa, zs, by omega, by go_num, rfl, oZ'.out, B5.out, RZ.out⟩
                          case measure => simp [intOf] <;> omega
end Go.Proofs.YtbjooeapjhaapaaGreatDoor
