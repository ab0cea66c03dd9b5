/- tallagelaw03.BigTexts: the walk. -/
import Derived.Test.YtbjooeapjhaapaaGreatDoorBStepE
namespace Go.Proofs.YtbjooeapjhaapaaGreatDoor
open Go Go.RowKit

set_option maxRecDepth 20000 in
set_option maxHeartbeats 4000000 in
theorem btexts_la {w : World} {B : Nat} {s : Bool} {A1 : Option Addr} {n1 c1 : Nat} {xs : List Int} {t : ByteArray} {k : Int} (h1 : Sl .u32 w B A1 n1 c1 xs) (hB : B ≤ w.heap.size) (hE : Env w) (hx : Dg 4294967296 xs) (hk : -9223372036854775808 ≤ k ∧ k ≤ 9223372036854775807) (HA : decide ((30 : Int) < (n1 : Int)) = true) :
    Calls Tryz.prog 4 #[.agg #[.bool s, .slice A1 n1 c1], .string t, .int .i64 k] w fun e w' => e = .returned (.bool true) ∧ Below w.heap.size w w' := by
  obtain ⟨b0, b1, b2, b3, hlt, hb0⟩ := box_new (w := w) (v0 := .bool s) (v1 := .slice A1 n1 c1) (t := 24) (Below.refl _ _)
  have S1 := Lib.hid ((h1.below hb0 hB).more (Nat.le_trans hB hb0.size))
  have BX := Lib.hid (show Boxed (w.alloc (.cells #[.bool s, .slice A1 n1 c1] 24)) w.heap.size (.bool s) (.slice A1 n1 c1) from ⟨b0, b1, b2, b3⟩)
  have E0 := Lib.hid (hE.below hb0)
  have V0 := Lib.hid hb0
  have DX := Lib.hid hx
  clear h1 hb0 b0 b1 b2 b3 hE hx
  go_enter Tryz.func4, Tryz.ntmps4
  go_upto_region 1 with fail
  generalize (w.alloc (.cells #[.bool s, .slice A1 n1 c1] 24)) = W0 at S1 BX E0 V0 hlt ⊢
  refine wp_region_flow [(3, STy.is (.pointer (some ⟨w.heap.size, 0, none⟩))), (1, STy.is (.string t)), (17, STy.is (.pointer (some ⟨w.heap.size, 1, none⟩))), (18, STy.is (.slice A1 n1 c1)), (19, STy.is (.int .i64 n1)), (20, STy.is (.bool true)),
      (21, STy.is (.bool true)), (25, STy.is (.bool true))]
      [3, 1] [(21, true)] 98 9 (by kernel_rfl) rfl ⟨fun _ _ h => h, trivial⟩ ⟨rfl, rfl, trivial⟩ ?_ ?_
  · repeat' first
      | exact OpStepsG.nil
      | refine OpStepsG.skip (by rfl) ?_
      | refine OpStepsG.run ?_ ?_
      | exact st_move fun _ _ h => h
      | exact st_assign fun _ _ h => h
      | exact stb_addr1 (fun _ _ h => h) (fun _ => rfl)
      | exact st_cellU (fun _ _ h => h) (cell_on BX.out.2.1 (by omega)) (fun _ => rfl)
      | exact stb_box (fun _ _ h => h) (cell_on BX.out.1 (by omega)) (cell_on BX.out.2.1 (by omega)) (fun _ => rfl)
      | exact st_lenU (fun _ _ h => h) (fun _ => rfl)
      | exact st_lenS (fun _ _ h => h) (fun _ => rfl)
      | exact st_gtrI (fun _ _ h => h) rfl (fun _ => congrArg Value.bool HA)
      | exact st_pickOr (u := true) (v := false) (fun _ _ h => h) (fun h => nomatch h) (fun _ => rfl)
      | exact st_pickOr (u := false) (v := true) (fun _ _ h => h) (fun _ => fun _ _ h => h) (fun _ => rfl)
      | exact st_pickOr (u := false) (v := false) (fun _ _ h => h) (fun _ => fun _ _ h => h) (fun _ => rfl)
  intro v w9 ho hb
  have e1 : v 25 = .bool true := ho.slot (d := 25) (by simp [dstD])
  clear ho
  simp only [List.append_eq, List.cons_append, List.nil_append, List.take, List.drop, List.map_cons, List.map_nil, dstD, Option.getD_some, putAll, Act.put, List.setIfInBounds_toArray, List.set_cons_succ, List.set_cons_zero, e1]
  clear e1
  have V1 := Lib.hid (V0.out.trans (hb.mono V0.out.size))
  have E1 := Lib.hid (E0.out.below hb)
  clear hb
  go_wp2_with fail
  refine (bworks E1.out).mono ?_
  rintro e w2 ⟨rfl, hb⟩
  have V2 := Lib.hid (V1.out.trans (hb.mono V1.out.size))
  clear hb
  go_wp2_with fail
  go_ret
  exact ⟨rfl, V2.out⟩
set_option maxRecDepth 20000 in
set_option maxHeartbeats 4000000 in
theorem btexts_lb {w : World} {B : Nat} {s : Bool} {A1 : Option Addr} {n1 c1 : Nat} {xs : List Int} {t : ByteArray} {k : Int} (h1 : Sl .u32 w B A1 n1 c1 xs) (hB : B ≤ w.heap.size) (hE : Env w) (hx : Dg 4294967296 xs) (hk : -9223372036854775808 ≤ k ∧ k ≤ 9223372036854775807) (HA : decide ((30 : Int) < (n1 : Int)) = false) (HT : decide ((200 : Int) < (t.size : Int)) = true) :
    Calls Tryz.prog 4 #[.agg #[.bool s, .slice A1 n1 c1], .string t, .int .i64 k] w fun e w' => e = .returned (.bool true) ∧ Below w.heap.size w w' := by
  obtain ⟨b0, b1, b2, b3, hlt, hb0⟩ := box_new (w := w) (v0 := .bool s) (v1 := .slice A1 n1 c1) (t := 24) (Below.refl _ _)
  have S1 := Lib.hid ((h1.below hb0 hB).more (Nat.le_trans hB hb0.size))
  have BX := Lib.hid (show Boxed (w.alloc (.cells #[.bool s, .slice A1 n1 c1] 24)) w.heap.size (.bool s) (.slice A1 n1 c1) from ⟨b0, b1, b2, b3⟩)
  have E0 := Lib.hid (hE.below hb0)
  have V0 := Lib.hid hb0
  have DX := Lib.hid hx
  clear h1 hb0 b0 b1 b2 b3 hE hx
  go_enter Tryz.func4, Tryz.ntmps4
  go_upto_region 1 with fail
  generalize (w.alloc (.cells #[.bool s, .slice A1 n1 c1] 24)) = W0 at S1 BX E0 V0 hlt ⊢
  refine wp_region_flow [(3, STy.is (.pointer (some ⟨w.heap.size, 0, none⟩))), (1, STy.is (.string t)), (17, STy.is (.pointer (some ⟨w.heap.size, 1, none⟩))), (18, STy.is (.slice A1 n1 c1)), (19, STy.is (.int .i64 n1)), (20, STy.is (.bool false)),
      (21, STy.is (.bool false)), (22, STy.is (.string t)), (23, STy.is (.int .i64 t.size)), (24, STy.is (.bool true)), (25, STy.is (.bool true))]
      [3, 1] [(21, false)] 98 9 (by kernel_rfl) rfl ⟨fun _ _ h => h, trivial⟩ ⟨rfl, rfl, trivial⟩ ?_ ?_
  · repeat' first
      | exact OpStepsG.nil
      | refine OpStepsG.skip (by rfl) ?_
      | refine OpStepsG.run ?_ ?_
      | exact st_move fun _ _ h => h
      | exact st_assign fun _ _ h => h
      | exact stb_addr1 (fun _ _ h => h) (fun _ => rfl)
      | exact st_cellU (fun _ _ h => h) (cell_on BX.out.2.1 (by omega)) (fun _ => rfl)
      | exact stb_box (fun _ _ h => h) (cell_on BX.out.1 (by omega)) (cell_on BX.out.2.1 (by omega)) (fun _ => rfl)
      | exact st_lenU (fun _ _ h => h) (fun _ => rfl)
      | exact st_lenS (fun _ _ h => h) (fun _ => rfl)
      | exact st_gtrI (fun _ _ h => h) rfl (fun _ => congrArg Value.bool HA)
      | exact st_gtrI (fun _ _ h => h) rfl (fun _ => congrArg Value.bool HT)
      | exact st_pickOr (u := true) (v := false) (fun _ _ h => h) (fun h => nomatch h) (fun _ => rfl)
      | exact st_pickOr (u := false) (v := true) (fun _ _ h => h) (fun _ => fun _ _ h => h) (fun _ => rfl)
      | exact st_pickOr (u := false) (v := false) (fun _ _ h => h) (fun _ => fun _ _ h => h) (fun _ => rfl)
  intro v w9 ho hb
  have e1 : v 25 = .bool true := ho.slot (d := 25) (by simp [dstD])
  clear ho
  simp only [List.append_eq, List.cons_append, List.nil_append, List.take, List.drop, List.map_cons, List.map_nil, dstD, Option.getD_some, putAll, Act.put, List.setIfInBounds_toArray, List.set_cons_succ, List.set_cons_zero, e1]
  clear e1
  have V1 := Lib.hid (V0.out.trans (hb.mono V0.out.size))
  have E1 := Lib.hid (E0.out.below hb)
  clear hb
  go_wp2_with fail
  refine (bworks E1.out).mono ?_
  rintro e w2 ⟨rfl, hb⟩
  have V2 := Lib.hid (V1.out.trans (hb.mono V1.out.size))
  clear hb
  go_wp2_with fail
  go_ret
  exact ⟨rfl, V2.out⟩
set_option maxRecDepth 20000 in
set_option maxHeartbeats 8000000 in
theorem btexts_main {w : World} {B : Nat} {s : Bool} {A1 : Option Addr} {n1 c1 : Nat} {xs : List Int} {t : ByteArray} {k : Int} (h1 : Sl .u32 w B A1 n1 c1 xs) (hB : B ≤ w.heap.size) (hE : Env w) (hx : Dg 4294967296 xs) (hk : -9223372036854775808 ≤ k ∧ k ≤ 9223372036854775807) (HA : decide ((30 : Int) < (n1 : Int)) = false) (HT : decide ((200 : Int) < (t.size : Int)) = false) :
    Calls Tryz.prog 4 #[.agg #[.bool s, .slice A1 n1 c1], .string t, .int .i64 k] w fun e w' => e = .returned (.bool true) ∧ Below w.heap.size w w' := by
  obtain ⟨b0, b1, b2, b3, hlt, hb0⟩ := box_new (w := w) (v0 := .bool s) (v1 := .slice A1 n1 c1) (t := 24) (Below.refl _ _)
  have S1 := Lib.hid ((h1.below hb0 hB).more (Nat.le_trans hB hb0.size))
  have BX := Lib.hid (show Boxed (w.alloc (.cells #[.bool s, .slice A1 n1 c1] 24)) w.heap.size (.bool s) (.slice A1 n1 c1) from ⟨b0, b1, b2, b3⟩)
  have E0 := Lib.hid (hE.below hb0)
  have V0 := Lib.hid hb0
  have DX := Lib.hid hx
  clear h1 hb0 b0 b1 b2 b3 hE hx
  go_enter Tryz.func4, Tryz.ntmps4
  go_upto_region 1 with fail
  generalize (w.alloc (.cells #[.bool s, .slice A1 n1 c1] 24)) = W0 at S1 BX E0 V0 hlt ⊢
  refine wp_region_flow [(3, STy.is (.pointer (some ⟨w.heap.size, 0, none⟩))), (1, STy.is (.string t)), (17, STy.is (.pointer (some ⟨w.heap.size, 1, none⟩))), (18, STy.is (.slice A1 n1 c1)), (19, STy.is (.int .i64 n1)), (20, STy.is (.bool false)),
      (21, STy.is (.bool false)), (22, STy.is (.string t)), (23, STy.is (.int .i64 t.size)), (24, STy.is (.bool false)), (25, STy.is (.bool false))]
      [3, 1] [(21, false)] 98 9 (by kernel_rfl) rfl ⟨fun _ _ h => h, trivial⟩ ⟨rfl, rfl, trivial⟩ ?_ ?_
  · repeat' first
      | exact OpStepsG.nil
      | refine OpStepsG.skip (by rfl) ?_
      | refine OpStepsG.run ?_ ?_
      | exact st_move fun _ _ h => h
      | exact st_assign fun _ _ h => h
      | exact stb_addr1 (fun _ _ h => h) (fun _ => rfl)
      | exact st_cellU (fun _ _ h => h) (cell_on BX.out.2.1 (by omega)) (fun _ => rfl)
      | exact stb_box (fun _ _ h => h) (cell_on BX.out.1 (by omega)) (cell_on BX.out.2.1 (by omega)) (fun _ => rfl)
      | exact st_lenU (fun _ _ h => h) (fun _ => rfl)
      | exact st_lenS (fun _ _ h => h) (fun _ => rfl)
      | exact st_gtrI (fun _ _ h => h) rfl (fun _ => congrArg Value.bool HA)
      | exact st_gtrI (fun _ _ h => h) rfl (fun _ => congrArg Value.bool HT)
      | exact st_pickOr (u := true) (v := false) (fun _ _ h => h) (fun h => nomatch h) (fun _ => rfl)
      | exact st_pickOr (u := false) (v := true) (fun _ _ h => h) (fun _ => fun _ _ h => h) (fun _ => rfl)
      | exact st_pickOr (u := false) (v := false) (fun _ _ h => h) (fun _ => fun _ _ h => h) (fun _ => rfl)
  intro v w9 ho hb
  have e1 : v 25 = .bool false := ho.slot (d := 25) (by simp [dstD])
  clear ho
  simp only [List.append_eq, List.cons_append, List.nil_append, List.take, List.drop, List.map_cons, List.map_nil, dstD, Option.getD_some, putAll, Act.put, List.setIfInBounds_toArray, List.set_cons_succ, List.set_cons_zero, e1]
  clear e1
  have q1 := of_decide_eq_false HA
  have q2 := of_decide_eq_false HT
  have hn1 : n1 ≤ 30 := by omega
  have hsz : t.size ≤ maxLen := by unfold maxLen; omega
  obtain ⟨s1, ps, er, PX⟩ := ParseI.out t
  have hl1 := S1.out.len
  have hN : ((ival s xs).natAbs : Int) < 1000000000 ^ 456 := by
    have h1 := val_lt (β := 4294967296) (by decide) DX.out
    rw [hl1] at h1
    have h2 : (4294967296 : Int) ^ n1 ≤ 4294967296 ^ 30 := pow_mono (by decide) hn1
    have h3 : (4294967296 : Int) ^ 30 < 1000000000 ^ 456 := by decide +kernel
    have h4 := val_nonneg (β := 4294967296) (by decide) DX.out
    have h5 : ((ival s xs).natAbs : Int) ≤ val 4294967296 xs := by
      cases hr : rgt s xs with
      | true => rw [ival_right hr, sgv_natAbs]; omega
      | false => rw [ival_wrong hr]; simpa using h4
    omega
  replace S1 := Lib.hid ((S1.out.below hb (Nat.le_refl _)).more hb.size)
  replace BX := Lib.hid (BX.out.below hb hlt)
  have V1 := Lib.hid (V0.out.trans (hb.mono V0.out.size))
  have E1 := Lib.hid (E0.out.below hb)
  replace hlt := Nat.lt_of_lt_of_le hlt hb.size
  clear hb V0 E0 q1 q2 HA HT
  go_wp2_with fail
  refine (bparsei_any t hsz).mono ?_
  intro e w2 h
  obtain ⟨A4, n4, c4, rfl, s4, hb⟩ := PX _ _ _ h
  clear h
  go_upto_region 4 with fail
  have x1 := BoxR.new (s := s1) s4 24
  have hbb := hb.trans ((below_new w2 (.cells #[.bool s1, .slice A4 n4 c4] 24)).mono hb.size)
  replace S1 := Lib.hid ((S1.out.below hbb (Nat.le_refl _)).more hbb.size)
  replace BX := Lib.hid (BX.out.below hbb hlt)
  have YP := Lib.hid x1
  have V2 := Lib.hid (V1.out.trans (hbb.mono V1.out.size))
  have E2 := Lib.hid (E1.out.below hbb)
  replace hlt := Nat.lt_of_lt_of_le hlt hbb.size
  clear hb hbb x1 s4 V1 E1
  generalize hsz2 : w2.heap.size = r1 at *
  generalize w2.alloc (.cells #[.bool s1, .slice A4 n4 c4] 24) = W2 at *
  clear hsz2
  go_wp2_with fail
  refine (parse3_any t hsz).mono ?_
  intro e w3 h
  obtain ⟨A5, n5, c5, rfl, s5, hb⟩ := PX _ _ _ h
  clear h
  go_upto_region 5 with fail
  have x1 := BoxR.new (s := s1) s5 26
  have hbb := hb.trans ((below_new w3 (.cells #[.bool s1, .slice A5 n5 c5] 26)).mono hb.size)
  replace S1 := Lib.hid ((S1.out.below hbb (Nat.le_refl _)).more hbb.size)
  replace BX := Lib.hid (BX.out.below hbb hlt)
  replace YP := Lib.hid (YP.out.up hbb)
  have YQ := Lib.hid x1
  have V3 := Lib.hid (V2.out.trans (hbb.mono V2.out.size))
  have E3 := Lib.hid (E2.out.below hbb)
  replace hlt := Nat.lt_of_lt_of_le hlt hbb.size
  clear hb hbb x1 s5 V2 E2
  generalize hsz3 : w3.heap.size = r2 at *
  generalize w3.alloc (.cells #[.bool s1, .slice A5 n5 c5] 26) = W3 at *
  clear hsz3
  refine wp_region_flow [(3, STy.is (.pointer (some ⟨w.heap.size, 0, none⟩))), (38, STy.is (.agg #[.bool s, .slice A1 n1 c1])), (39, STy.is (.tuple #[.int .i64 (in64 (ival s xs)), .bool (fits64 (ival s xs))])), (37, STy.is (.tuple #[.int .i64 (in64 (ival s xs)), .bool (fits64 (ival s xs))])), (40, STy.is (.int .i64 (in64 (ival s xs)))), (41, STy.is (.bool (fits64 (ival s xs)))),
      (11, STy.is (.int .i64 (in64 (ival s xs)))), (12, STy.is (.bool (fits64 (ival s xs))))]
      [3] [] 98 7 (by kernel_rfl) rfl trivial ⟨rfl, trivial⟩ ?_ ?_
  · repeat' first
      | exact OpStepsG.nil
      | refine OpStepsG.skip (by rfl) ?_
      | refine OpStepsG.run ?_ ?_
      | exact st_move fun _ _ h => h
      | exact st_assign fun _ _ h => h
      | exact stb_box (fun _ _ h => h) (cell_on BX.out.1 (by omega)) (cell_on BX.out.2.1 (by omega)) (fun _ => rfl)
      | exact sn_int64A (fun _ _ h => h) S1.out DX.out (by omega) E3.out (fun _ => rfl)
      | exact sn_ref (fun _ _ h => h) S1.out (by omega) (fun _ _ h => h)
      | exact sn_int64_3 (fun _ _ h => h) DX.out (by omega) (fun _ => rfl)
      | exact sn_of (fun _ _ h => h) hk (fun _ _ h => h)
      | exact sn_of3 (fun _ _ h => h) hk (fun _ _ h => h)
      | exact sn_int64 (fun _ _ h => h) E3.out (by decide) (fun _ => rfl)
      | exact st_extract (fun w v h => ⟨_, _, h, rfl, rfl⟩)
      | exact sn_loadR (fun _ _ h => h) YP.out (fun _ _ h => h)
      | exact sn_loadR3 (fun _ _ h => h) YQ.out (fun _ _ h => h)
      | exact sn_same (fun _ _ h => h) (fun _ _ h => h) (fun _ => rfl)
      | exact sn_sameN (fun _ _ h => h) (fun _ _ h => h) (fun _ => rfl)
      | exact sn_putA (fun _ _ h => h) S1.out DX.out (by omega) hN E3.out (fun _ _ h => h)
      | exact sn_put3 (fun _ _ h => h) DX.out (by omega) (fun _ _ h => h)
      | exact sn_eqTT (fun _ _ h => h) (fun _ _ h => h) (fun _ => rfl)
      | exact st_eqE (fun _ _ h => h) (fun _ _ h => h) (fun _ => congrArg Value.bool (beq_self_eq_true _))
      | exact st_eqL (fun _ _ h => h) (fun _ _ h => h) (fun _ => congrArg Value.bool (beq_self_eq_true _))
      | exact st_eqB (fun _ _ h => h) (fun _ _ h => h) (fun _ => congrArg Value.bool (beq_self_eq_true _))
      | exact st_pickAnd (u := true) (v := true) (fun _ _ h => h) (fun _ => fun _ _ h => h) (fun _ => rfl)
      | exact sn_works E3.out (fun _ => rfl)
  intro v w9 ho hb
  have e1 : v 40 = .int .i64 (in64 (ival s xs)) := ho.slot (d := 40) (by simp [dstD])
  have e2 : v 41 = .bool (fits64 (ival s xs)) := ho.slot (d := 41) (by simp [dstD])
  have e3 : v 11 = .int .i64 (in64 (ival s xs)) := ho.slot (d := 11) (by simp [dstD])
  have e4 : v 12 = .bool (fits64 (ival s xs)) := ho.slot (d := 12) (by simp [dstD])
  clear ho
  simp only [List.append_eq, List.cons_append, List.nil_append, List.take, List.drop, List.map_cons, List.map_nil, dstD, Option.getD_some, putAll, Act.put, List.setIfInBounds_toArray, List.set_cons_succ, List.set_cons_zero, e1, e2, e3, e4]
  clear e1 e2 e3 e4
  replace S1 := Lib.hid ((S1.out.below hb (Nat.le_refl _)).more hb.size)
  replace BX := Lib.hid (BX.out.below hb hlt)
  replace YP := Lib.hid (YP.out.up hb)
  replace YQ := Lib.hid (YQ.out.up hb)
  have V4 := Lib.hid (V3.out.trans (hb.mono V3.out.size))
  have E4 := Lib.hid (E3.out.below hb)
  replace hlt := Nat.lt_of_lt_of_le hlt hb.size
  clear hb V3 E3
  go_upto_region 6 with fail
  refine wp_region_flow [(3, STy.is (.pointer (some ⟨w.heap.size, 0, none⟩))), (43, STy.is (.agg #[.bool s, .slice A1 n1 c1])), (44, STy.refI s xs), (45, STy.is (.tuple #[.int .i64 (in64 (ival s xs)), .bool (fits64 (ival s xs))])), (42, STy.is (.tuple #[.int .i64 (in64 (ival s xs)), .bool (fits64 (ival s xs))])), (46, STy.is (.int .i64 (in64 (ival s xs)))),
      (47, STy.is (.bool (fits64 (ival s xs)))), (13, STy.is (.int .i64 (in64 (ival s xs)))), (14, STy.is (.bool (fits64 (ival s xs))))]
      [3] [] 98 8 (by kernel_rfl) rfl trivial ⟨rfl, trivial⟩ ?_ ?_
  · repeat' first
      | exact OpStepsG.nil
      | refine OpStepsG.skip (by rfl) ?_
      | refine OpStepsG.run ?_ ?_
      | exact st_move fun _ _ h => h
      | exact st_assign fun _ _ h => h
      | exact stb_box (fun _ _ h => h) (cell_on BX.out.1 (by omega)) (cell_on BX.out.2.1 (by omega)) (fun _ => rfl)
      | exact sn_int64A (fun _ _ h => h) S1.out DX.out (by omega) E4.out (fun _ => rfl)
      | exact sn_ref (fun _ _ h => h) S1.out (by omega) (fun _ _ h => h)
      | exact sn_int64_3 (fun _ _ h => h) DX.out (by omega) (fun _ => rfl)
      | exact sn_of (fun _ _ h => h) hk (fun _ _ h => h)
      | exact sn_of3 (fun _ _ h => h) hk (fun _ _ h => h)
      | exact sn_int64 (fun _ _ h => h) E4.out (by decide) (fun _ => rfl)
      | exact st_extract (fun w v h => ⟨_, _, h, rfl, rfl⟩)
      | exact sn_loadR (fun _ _ h => h) YP.out (fun _ _ h => h)
      | exact sn_loadR3 (fun _ _ h => h) YQ.out (fun _ _ h => h)
      | exact sn_same (fun _ _ h => h) (fun _ _ h => h) (fun _ => rfl)
      | exact sn_sameN (fun _ _ h => h) (fun _ _ h => h) (fun _ => rfl)
      | exact sn_putA (fun _ _ h => h) S1.out DX.out (by omega) hN E4.out (fun _ _ h => h)
      | exact sn_put3 (fun _ _ h => h) DX.out (by omega) (fun _ _ h => h)
      | exact sn_eqTT (fun _ _ h => h) (fun _ _ h => h) (fun _ => rfl)
      | exact st_eqE (fun _ _ h => h) (fun _ _ h => h) (fun _ => congrArg Value.bool (beq_self_eq_true _))
      | exact st_eqL (fun _ _ h => h) (fun _ _ h => h) (fun _ => congrArg Value.bool (beq_self_eq_true _))
      | exact st_eqB (fun _ _ h => h) (fun _ _ h => h) (fun _ => congrArg Value.bool (beq_self_eq_true _))
      | exact st_pickAnd (u := true) (v := true) (fun _ _ h => h) (fun _ => fun _ _ h => h) (fun _ => rfl)
      | exact sn_works E4.out (fun _ => rfl)
  intro v w9 ho hb
  have e1 : v 46 = .int .i64 (in64 (ival s xs)) := ho.slot (d := 46) (by simp [dstD])
  have e2 : v 47 = .bool (fits64 (ival s xs)) := ho.slot (d := 47) (by simp [dstD])
  have e3 : v 13 = .int .i64 (in64 (ival s xs)) := ho.slot (d := 13) (by simp [dstD])
  have e4 : v 14 = .bool (fits64 (ival s xs)) := ho.slot (d := 14) (by simp [dstD])
  clear ho
  simp only [List.append_eq, List.cons_append, List.nil_append, List.take, List.drop, List.map_cons, List.map_nil, dstD, Option.getD_some, putAll, Act.put, List.setIfInBounds_toArray, List.set_cons_succ, List.set_cons_zero, e1, e2, e3, e4]
  clear e1 e2 e3 e4
  replace S1 := Lib.hid ((S1.out.below hb (Nat.le_refl _)).more hb.size)
  replace BX := Lib.hid (BX.out.below hb hlt)
  replace YP := Lib.hid (YP.out.up hb)
  replace YQ := Lib.hid (YQ.out.up hb)
  have V5 := Lib.hid (V4.out.trans (hb.mono V4.out.size))
  have E5 := Lib.hid (E4.out.below hb)
  replace hlt := Nat.lt_of_lt_of_le hlt hb.size
  clear hb V4 E4
  go_upto_region 7 with fail
  refine wp_region_flow [(2, STy.is (.int .i64 k)), (49, STy.is (.int .i64 k)), (50, STy.num (k) (2)), (51, STy.is (.tuple #[.int .i64 (in64 (k)), .bool (fits64 (k))])), (48, STy.is (.tuple #[.int .i64 (in64 (k)), .bool (fits64 (k))])), (52, STy.is (.int .i64 (in64 (k)))),
      (53, STy.is (.bool (fits64 (k)))), (15, STy.is (.int .i64 (in64 (k)))), (16, STy.is (.bool (fits64 (k))))]
      [2] [] 98 8 (by kernel_rfl) rfl trivial ⟨rfl, trivial⟩ ?_ ?_
  · repeat' first
      | exact OpStepsG.nil
      | refine OpStepsG.skip (by rfl) ?_
      | refine OpStepsG.run ?_ ?_
      | exact st_move fun _ _ h => h
      | exact st_assign fun _ _ h => h
      | exact stb_box (fun _ _ h => h) (cell_on BX.out.1 (by omega)) (cell_on BX.out.2.1 (by omega)) (fun _ => rfl)
      | exact sn_int64A (fun _ _ h => h) S1.out DX.out (by omega) E5.out (fun _ => rfl)
      | exact sn_ref (fun _ _ h => h) S1.out (by omega) (fun _ _ h => h)
      | exact sn_int64_3 (fun _ _ h => h) DX.out (by omega) (fun _ => rfl)
      | exact sn_of (fun _ _ h => h) hk (fun _ _ h => h)
      | exact sn_of3 (fun _ _ h => h) hk (fun _ _ h => h)
      | exact sn_int64 (fun _ _ h => h) E5.out (by decide) (fun _ => rfl)
      | exact st_extract (fun w v h => ⟨_, _, h, rfl, rfl⟩)
      | exact sn_loadR (fun _ _ h => h) YP.out (fun _ _ h => h)
      | exact sn_loadR3 (fun _ _ h => h) YQ.out (fun _ _ h => h)
      | exact sn_same (fun _ _ h => h) (fun _ _ h => h) (fun _ => rfl)
      | exact sn_sameN (fun _ _ h => h) (fun _ _ h => h) (fun _ => rfl)
      | exact sn_putA (fun _ _ h => h) S1.out DX.out (by omega) hN E5.out (fun _ _ h => h)
      | exact sn_put3 (fun _ _ h => h) DX.out (by omega) (fun _ _ h => h)
      | exact sn_eqTT (fun _ _ h => h) (fun _ _ h => h) (fun _ => rfl)
      | exact st_eqE (fun _ _ h => h) (fun _ _ h => h) (fun _ => congrArg Value.bool (beq_self_eq_true _))
      | exact st_eqL (fun _ _ h => h) (fun _ _ h => h) (fun _ => congrArg Value.bool (beq_self_eq_true _))
      | exact st_eqB (fun _ _ h => h) (fun _ _ h => h) (fun _ => congrArg Value.bool (beq_self_eq_true _))
      | exact st_pickAnd (u := true) (v := true) (fun _ _ h => h) (fun _ => fun _ _ h => h) (fun _ => rfl)
      | exact sn_works E5.out (fun _ => rfl)
  intro v w9 ho hb
  have e1 : v 15 = .int .i64 (in64 k) := ho.slot (d := 15) (by simp [dstD])
  have e2 : v 16 = .bool (fits64 k) := ho.slot (d := 16) (by simp [dstD])
  rw [(fits_yes hk).2] at e1
  rw [(fits_yes hk).1] at e2
  clear ho
  simp only [List.append_eq, List.cons_append, List.nil_append, List.take, List.drop, List.map_cons, List.map_nil, dstD, Option.getD_some, putAll, Act.put, List.setIfInBounds_toArray, List.set_cons_succ, List.set_cons_zero, e1, e2]
  clear e1 e2
  replace S1 := Lib.hid ((S1.out.below hb (Nat.le_refl _)).more hb.size)
  replace BX := Lib.hid (BX.out.below hb hlt)
  replace YP := Lib.hid (YP.out.up hb)
  replace YQ := Lib.hid (YQ.out.up hb)
  have V6 := Lib.hid (V5.out.trans (hb.mono V5.out.size))
  have E6 := Lib.hid (E5.out.below hb)
  replace hlt := Nat.lt_of_lt_of_le hlt hb.size
  clear hb V5 E5
  go_upto_region 8 with fail
  refine wp_region_chain ((3, STy.is (.pointer (some ⟨w.heap.size, 0, none⟩))) :: (2, STy.is (.int .i64 k)) :: (7, STy.is (.pointer (some ⟨r1, 0, none⟩))) :: (8, STy.is (.int .i64 er)) :: (9, STy.is (.pointer (some ⟨r2, 0, none⟩))) :: (10, STy.is (.int .i64 er)) ::
      (11, STy.is (.int .i64 (in64 (ival s xs)))) :: (12, STy.is (.bool (fits64 (ival s xs)))) :: (13, STy.is (.int .i64 (in64 (ival s xs)))) :: (14, STy.is (.bool (fits64 (ival s xs)))) :: (15, STy.is (.int .i64 k)) :: (16, STy.is (.bool true)) ::
      (54, STy.is (.int .i64 er)) :: (55, STy.is (.int .i64 er)) :: (56, STy.is (.bool true)) :: (57, STy.is (.bool true)) :: (58, STy.refI s1 ps) :: (59, STy.refI s1 ps) ::
      (60, STy.is (.bool true)) :: (61, STy.is (.bool true)) :: (62, STy.is (.bool true)) :: (63, STy.is (.agg #[.bool s, .slice A1 n1 c1])) :: (64, STy.txt (putI (ival s xs))) :: (65, STy.is (.agg #[.bool s, .slice A1 n1 c1])) ::
      (66, STy.refI s xs) :: (67, STy.txt (putI (ival s xs))) :: (68, STy.is (.bool true)) :: (69, STy.is (.bool true)) :: (70, STy.is (.bool true)) :: (71, STy.is (.int .i64 (in64 (ival s xs)))) ::
      (72, STy.is (.int .i64 (in64 (ival s xs)))) :: (73, STy.is (.bool true)) :: (74, STy.is (.bool true)) :: (75, STy.is (.bool true)) :: (76, STy.is (.bool (fits64 (ival s xs)))) :: (77, STy.is (.bool (fits64 (ival s xs)))) ::
      (78, STy.is (.bool true)) :: (79, STy.is (.bool true)) :: (80, STy.is (.bool true)) :: (81, STy.is (.int .i64 k)) :: (82, STy.is (.int .i64 k)) :: (83, STy.is (.bool true)) ::
      (84, STy.is (.bool true)) :: (85, STy.is (.bool true)) :: (86, STy.is (.bool true)) :: (87, STy.is (.bool true)) :: (88, STy.is (.bool true)) :: (89, STy.is (.int .i64 k)) ::
      (90, STy.num (k) (2)) :: (91, STy.is (.int .i64 k)) :: (92, STy.num (k) (2)) :: (93, STy.is (.bool true)) :: (94, STy.is (.bool true)) :: (95, STy.is (.bool true)) ::
      (96, STy.is (.bool true)) :: (97, STy.is (.bool true)) :: [])
      [3, 2, 7, 8, 9, 10, 11, 12, 13, 14, 15, 16] [(57, true), (62, true), (70, true), (75, true), (80, true), (85, true), (88, true), (95, true)] 98 44 (by kernel_rfl) (by kernel_rfl) rfl ⟨fun _ _ h => h, fun _ _ h => h, fun _ _ h => h, fun _ _ h => h, fun _ _ h => h, fun _ _ h => h, fun _ _ h => h, fun _ _ h => h, trivial⟩ ⟨rfl, rfl, rfl, rfl, rfl, rfl, rfl, rfl, rfl, rfl, rfl, rfl, trivial⟩ ?_ ?_ ?_
  · repeat' first
      | exact OpStepsG.nil
      | refine OpStepsG.skip (by rfl) ?_
      | refine OpStepsG.run ?_ ?_
      | exact st_move fun _ _ h => h
      | exact st_assign fun _ _ h => h
      | exact stb_box (fun _ _ h => h) (cell_on BX.out.1 (by omega)) (cell_on BX.out.2.1 (by omega)) (fun _ => rfl)
      | exact sn_int64A (fun _ _ h => h) S1.out DX.out (by omega) E6.out (fun _ => rfl)
      | exact sn_ref (fun _ _ h => h) S1.out (by omega) (fun _ _ h => h)
      | exact sn_int64_3 (fun _ _ h => h) DX.out (by omega) (fun _ => rfl)
      | exact sn_of (fun _ _ h => h) hk (fun _ _ h => h)
      | exact sn_of3 (fun _ _ h => h) hk (fun _ _ h => h)
      | exact sn_int64 (fun _ _ h => h) E6.out (by decide) (fun _ => rfl)
      | exact st_extract (fun w v h => ⟨_, _, h, rfl, rfl⟩)
      | exact sn_loadR (fun _ _ h => h) YP.out (fun _ _ h => h)
      | exact sn_loadR3 (fun _ _ h => h) YQ.out (fun _ _ h => h)
      | exact sn_same (fun _ _ h => h) (fun _ _ h => h) (fun _ => rfl)
      | exact sn_sameN (fun _ _ h => h) (fun _ _ h => h) (fun _ => rfl)
      | exact sn_putA (fun _ _ h => h) S1.out DX.out (by omega) hN E6.out (fun _ _ h => h)
      | exact sn_put3 (fun _ _ h => h) DX.out (by omega) (fun _ _ h => h)
      | exact sn_eqTT (fun _ _ h => h) (fun _ _ h => h) (fun _ => rfl)
      | exact st_eqE (fun _ _ h => h) (fun _ _ h => h) (fun _ => congrArg Value.bool (beq_self_eq_true _))
      | exact st_eqL (fun _ _ h => h) (fun _ _ h => h) (fun _ => congrArg Value.bool (beq_self_eq_true _))
      | exact st_eqB (fun _ _ h => h) (fun _ _ h => h) (fun _ => congrArg Value.bool (beq_self_eq_true _))
      | exact st_pickAnd (u := true) (v := true) (fun _ _ h => h) (fun _ => fun _ _ h => h) (fun _ => rfl)
      | exact sn_works E6.out (fun _ => rfl)
  · repeat' first
      | exact AllocsOk.nil
      | refine AllocsOk.cons ?_ ?_
      | exact fun T h => nomatch h
  intro v w9 ho _ hb
  have e1 : v 97 = .bool true := ho.slot (d := 97) (by simp [dstD])
  clear ho
  simp only [List.append_eq, List.cons_append, List.nil_append, List.take, List.drop, List.map_cons, List.map_nil, dstD, Option.getD_some, putAll, Act.put, List.setIfInBounds_toArray, List.set_cons_succ, List.set_cons_zero, e1]
  clear e1
  have V7 := Lib.hid (V6.out.trans (hb.mono V6.out.size))
  have E7 := Lib.hid (E6.out.below hb)
  replace hlt := Nat.lt_of_lt_of_le hlt hb.size
  clear hb V6 E6
  go_wp2_with fail
  go_ret
  exact ⟨rfl, V7.out⟩
theorem BigTexts_any {w : World} {B : Nat} {s : Bool} {A1 : Option Addr} {n1 c1 : Nat} {xs : List Int} {t : ByteArray} {k : Int} (h1 : Sl .u32 w B A1 n1 c1 xs) (hB : B ≤ w.heap.size) (hE : Env w) (hx : Dg 4294967296 xs) (hk : -9223372036854775808 ≤ k ∧ k ≤ 9223372036854775807) :
    Calls Tryz.prog 4 #[.agg #[.bool s, .slice A1 n1 c1], .string t, .int .i64 k] w fun e w' => e = .returned (.bool true) ∧ Below w.heap.size w w' := by
  cases HA : decide ((30 : Int) < (n1 : Int)) with
  | true => exact btexts_la h1 hB hE hx hk HA
  | false =>
    cases HT : decide ((200 : Int) < (t.size : Int)) with
    | true => exact btexts_lb h1 hB hE hx hk HA HT
    | false => exact btexts_main h1 hB hE hx hk HA HT
end Go.Proofs.YtbjooeapjhaapaaGreatDoor
