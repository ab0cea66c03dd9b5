/- tallagelaw03.BigBack: the walk. -/
import Derived.Test.YtbjooeapjhaapaaGreatDoorBStepD
namespace Go.Proofs.YtbjooeapjhaapaaGreatDoor
open Go Go.RowKit

theorem IsN.zero {w : World} : IsN w 0 0 false none 0 0 := ⟨[], Whole.zero, Sl.nil, Nat.le_refl _⟩
theorem cmp_zero {N : Int} : (cmpI N 0 == 0) = decide (N = 0) := by
  by_cases h : N = 0
  · rw [decide_eq_true h, cmpI_eq h]; rfl
  · rw [decide_eq_false h, beq_eq_false_iff_ne]; exact fun e => h (cmpI_zero.1 e)
theorem cmp_less {N M : Int} (h : N < M) : decide ((0 : Int) ≤ cmpI N M) = false := by rw [cmpI_lt h]; rfl
theorem cmp_signs_same {N M : Int} (h : (0 < N ∧ 0 < M) ∨ (N < 0 ∧ M < 0)) : (cmpI N 0 != cmpI M 0) = false := by
  rcases h with ⟨a, b⟩ | ⟨a, b⟩
  · rw [cmpI_gt a, cmpI_gt b]; rfl
  · rw [cmpI_lt a, cmpI_lt b]; rfl
theorem fmod_sign (N : Int) {M : Int} (hM : M ≠ 0) (h0 : N.fmod M ≠ 0) : (0 < N.fmod M ∧ 0 < M) ∨ (N.fmod M < 0 ∧ M < 0) := by
  have hU : 0 < (M.natAbs : Int) := by omega
  obtain ⟨k1, k2⟩ := floor_parts (s := decide (N < 0)) (t := decide (M < 0)) (V := (N.natAbs : Int)) hU
  rw [sgv_self, sgv_self] at k1 k2
  have h1 := Int.emod_nonneg (N.natAbs : Int) (show (M.natAbs : Int) ≠ 0 by omega)
  have h2 := Int.emod_lt_of_pos (N.natAbs : Int) hU
  generalize (N.natAbs : Int) % (M.natAbs : Int) = r at *
  have key : ∃ z : Int, 0 ≤ z ∧ N.fmod M = sgv (decide (M < 0)) z := by
    by_cases hd : ((decide (N < 0)) != (decide (M < 0))) = true ∧ r ≠ 0
    · exact ⟨_, by omega, (k2 hd).2⟩
    · refine ⟨_, h1, (k1 ?_).2⟩
      by_cases h0 : r = 0
      · exact .inr h0
      · refine .inl ?_
        cases hb : ((decide (N < 0)) != (decide (M < 0))) with
        | false => rfl
        | true => exact absurd ⟨hb, h0⟩ hd
  obtain ⟨z, hz, e⟩ := key
  by_cases hm : M < 0
  · rw [decide_eq_true hm, sgv_true] at e; omega
  · rw [decide_eq_false hm, sgv_false] at e; omega
theorem gcd_zero {N M : Int} (h : gcdI (N.natAbs : Int) (M.natAbs : Int) = 0) : N = 0 ∧ M = 0 := by
  unfold gcdI at h
  simp at h
  omega
theorem gcd_fmod {N M G : Int} (hG : gcdI (N.natAbs : Int) (M.natAbs : Int) = G) : N.fmod G = 0 ∧ M.fmod G = 0 := by
  have e : G = ((Nat.gcd N.natAbs M.natAbs : Nat) : Int) := by rw [← hG]; unfold gcdI; simp
  have d1 : G ∣ N := by rw [e]; exact Int.ofNat_dvd_left.2 (Nat.gcd_dvd_left _ _)
  have d2 : G ∣ M := by rw [e]; exact Int.ofNat_dvd_left.2 (Nat.gcd_dvd_right _ _)
  exact ⟨Int.fmod_eq_zero_of_dvd d1, Int.fmod_eq_zero_of_dvd d2⟩
theorem BoxN.of {w : World} {r : Nat} {N : Int} {L : Nat} {s : Bool} {A : Option Addr} {n c : Nat} {xs : List Int} (hb : Boxed w r (.bool s) (.slice A n c)) (hr : r < w.heap.size) (hW : rgt s xs = true) (hx : Dg 4294967296 xs) (hs : Sl .u32 w w.heap.size A n c xs) (hn : n ≤ L) (hN : ival s xs = N) : BoxN w r N L := by
  refine ⟨hr, s, A, n, c, hb, xs, ?_, hs, hn⟩
  have := Whole.of hx hW
  rw [← ival_right hW, hN] at this
  exact this
set_option maxRecDepth 20000 in
set_option maxHeartbeats 4000000 in
theorem bback_la {w : World} {B : Nat} {s t u : Bool} {A1 A2 A3 : Option Addr} {n1 c1 n2 c2 n3 c3 : Nat} {xs ys zs : List Int} (h1 : Sl .u32 w B A1 n1 c1 xs) (h2 : Sl .u32 w B A2 n2 c2 ys) (h3 : Sl .u32 w B A3 n3 c3 zs) (hB : B ≤ w.heap.size) (hE : Env w) (hx : Dg 4294967296 xs) (hy : Dg 4294967296 ys) (hz : Dg 4294967296 zs) (HA : decide ((20 : Int) < (n1 : Int)) = true) :
    Calls Tryz.prog 6 #[.agg #[.bool s, .slice A1 n1 c1], .agg #[.bool t, .slice A2 n2 c2], .agg #[.bool u, .slice A3 n3 c3]] w fun e w' => e = .returned (.bool true) ∧ Below w.heap.size w w' := by
  obtain ⟨bX, bY, bZ, hlt, _⟩ := box_new3 (w := w) (v0 := .bool s) (v1 := .slice A1 n1 c1) (u0 := .bool t) (u1 := .slice A2 n2 c2) (x0 := .bool u) (x1 := .slice A3 n3 c3) (t := 24) (t2 := 24) (t3 := 24) (Below.refl _ _)
  have hb0 : Below w.heap.size w (((w.alloc (.cells #[.bool s, .slice A1 n1 c1] 24)).alloc (.cells #[.bool t, .slice A2 n2 c2] 24)).alloc (.cells #[.bool u, .slice A3 n3 c3] 24)) := (((Below.refl _ _).alloc (Nat.le_refl _) _).alloc (by rw [size_one]; omega) _).alloc (by rw [size_two]; omega) _
  have S1 := Lib.hid ((h1.below hb0 hB).more (Nat.le_trans hB hb0.size))
  have S2 := Lib.hid ((h2.below hb0 hB).more (Nat.le_trans hB hb0.size))
  have S3 := Lib.hid ((h3.below hb0 hB).more (Nat.le_trans hB hb0.size))
  have BX := Lib.hid bX
  have BY := Lib.hid bY
  have BZ := Lib.hid bZ
  have E0 := Lib.hid (hE.below hb0)
  have V0 := Lib.hid hb0
  have DX := Lib.hid hx
  have DY := Lib.hid hy
  have DZ := Lib.hid hz
  clear h1 h2 h3 hb0 bX bY bZ hE hx hy hz
  go_enter Tryz.func6, Tryz.ntmps6
  go_upto_region 1 with fail
  generalize (((w.alloc (.cells #[.bool s, .slice A1 n1 c1] 24)).alloc (.cells #[.bool t, .slice A2 n2 c2] 24)).alloc (.cells #[.bool u, .slice A3 n3 c3] 24)) = W0 at S1 S2 S3 BX BY BZ E0 V0 hlt ⊢
  refine wp_region_flow [(3, STy.is (.pointer (some ⟨w.heap.size, 0, none⟩))), (4, STy.is (.pointer (some ⟨w.heap.size + 1, 0, none⟩))), (5, STy.is (.pointer (some ⟨w.heap.size + 2, 0, none⟩))), (19, STy.is (.pointer (some ⟨w.heap.size, 1, none⟩))), (20, STy.is (.slice A1 n1 c1)), (21, STy.is (.int .i64 n1)),
      (22, STy.is (.bool true)), (23, STy.is (.bool true)), (28, STy.is (.bool true)), (29, STy.is (.bool true)), (34, STy.is (.bool true)), (35, STy.is (.bool true)),
      (39, STy.is (.bool true)), (40, STy.is (.bool true)), (44, STy.is (.bool true)), (45, STy.is (.bool true)), (49, STy.is (.bool true))]
      [3, 4, 5] [(23, true), (29, true), (35, true), (40, true), (45, true)] 203 31 (by kernel_rfl) rfl ⟨fun _ _ h => h, fun _ _ h => h, fun _ _ h => h, fun _ _ h => h, fun _ _ h => h, trivial⟩ ⟨rfl, rfl, rfl, trivial⟩ ?_ ?_
  · repeat' first
      | exact OpStepsG.nil
      | refine OpStepsG.skip (by rfl) ?_
      | refine OpStepsG.run ?_ ?_
      | exact st_move fun _ _ h => h
      | exact st_assign fun _ _ h => h
      | exact stb_addr1 (fun _ _ h => h) (fun _ => rfl)
      | exact st_cellU (fun _ _ h => h) (cell_on BX.out.2.1 (by omega)) (fun _ => rfl)
      | exact stb_box (fun _ _ h => h) (cell_on BX.out.1 (by omega)) (cell_on BX.out.2.1 (by omega)) (fun _ => rfl)
      | exact st_cellU (fun _ _ h => h) (cell_on BY.out.2.1 (by omega)) (fun _ => rfl)
      | exact stb_box (fun _ _ h => h) (cell_on BY.out.1 (by omega)) (cell_on BY.out.2.1 (by omega)) (fun _ => rfl)
      | exact st_cellU (fun _ _ h => h) (cell_on BZ.out.2.1 (by omega)) (fun _ => rfl)
      | exact stb_box (fun _ _ h => h) (cell_on BZ.out.1 (by omega)) (cell_on BZ.out.2.1 (by omega)) (fun _ => rfl)
      | exact st_lenU (fun _ _ h => h) (fun _ => rfl)
      | exact st_gtrI (fun _ _ h => h) rfl (fun _ => congrArg Value.bool HA)
      | exact st_notB (u := true) (fun _ _ h => h) (fun _ => rfl)
      | exact st_notB (u := false) (fun _ _ h => h) (fun _ => rfl)
      | exact st_pickOr (u := true) (v := false) (fun _ _ h => h) (fun h => nomatch h) (fun _ => rfl)
      | exact st_pickOr (u := false) (v := true) (fun _ _ h => h) (fun _ => fun _ _ h => h) (fun _ => rfl)
      | exact st_pickOr (u := false) (v := false) (fun _ _ h => h) (fun _ => fun _ _ h => h) (fun _ => rfl)
  intro v w9 ho hb
  have e1 : v 49 = .bool true := ho.slot (d := 49) (by simp [dstD])
  clear ho
  simp only [List.append_eq, List.cons_append, List.nil_append, List.take, List.drop, List.map_cons, List.map_nil, dstD, Option.getD_some, putAll, Act.put, List.setIfInBounds_toArray, List.set_cons_succ, List.set_cons_zero, e1]
  clear e1
  have V1 := Lib.hid (V0.out.trans (hb.mono V0.out.size))
  have E1 := Lib.hid (E0.out.below hb)
  clear hb
  go_wp2_with fail
  refine (bworks E1.out).mono ?_
  rintro e w2 ⟨rfl, hb⟩
  have V2 := Lib.hid (V1.out.trans (hb.mono V1.out.size))
  clear hb
  go_wp2_with fail
  go_ret
  exact ⟨rfl, V2.out⟩
set_option maxRecDepth 20000 in
set_option maxHeartbeats 4000000 in
theorem bback_lb {w : World} {B : Nat} {s t u : Bool} {A1 A2 A3 : Option Addr} {n1 c1 n2 c2 n3 c3 : Nat} {xs ys zs : List Int} (h1 : Sl .u32 w B A1 n1 c1 xs) (h2 : Sl .u32 w B A2 n2 c2 ys) (h3 : Sl .u32 w B A3 n3 c3 zs) (hB : B ≤ w.heap.size) (hE : Env w) (hx : Dg 4294967296 xs) (hy : Dg 4294967296 ys) (hz : Dg 4294967296 zs) (HA : decide ((20 : Int) < (n1 : Int)) = false) (HB : decide ((20 : Int) < (n2 : Int)) = true) :
    Calls Tryz.prog 6 #[.agg #[.bool s, .slice A1 n1 c1], .agg #[.bool t, .slice A2 n2 c2], .agg #[.bool u, .slice A3 n3 c3]] w fun e w' => e = .returned (.bool true) ∧ Below w.heap.size w w' := by
  obtain ⟨bX, bY, bZ, hlt, _⟩ := box_new3 (w := w) (v0 := .bool s) (v1 := .slice A1 n1 c1) (u0 := .bool t) (u1 := .slice A2 n2 c2) (x0 := .bool u) (x1 := .slice A3 n3 c3) (t := 24) (t2 := 24) (t3 := 24) (Below.refl _ _)
  have hb0 : Below w.heap.size w (((w.alloc (.cells #[.bool s, .slice A1 n1 c1] 24)).alloc (.cells #[.bool t, .slice A2 n2 c2] 24)).alloc (.cells #[.bool u, .slice A3 n3 c3] 24)) := (((Below.refl _ _).alloc (Nat.le_refl _) _).alloc (by rw [size_one]; omega) _).alloc (by rw [size_two]; omega) _
  have S1 := Lib.hid ((h1.below hb0 hB).more (Nat.le_trans hB hb0.size))
  have S2 := Lib.hid ((h2.below hb0 hB).more (Nat.le_trans hB hb0.size))
  have S3 := Lib.hid ((h3.below hb0 hB).more (Nat.le_trans hB hb0.size))
  have BX := Lib.hid bX
  have BY := Lib.hid bY
  have BZ := Lib.hid bZ
  have E0 := Lib.hid (hE.below hb0)
  have V0 := Lib.hid hb0
  have DX := Lib.hid hx
  have DY := Lib.hid hy
  have DZ := Lib.hid hz
  clear h1 h2 h3 hb0 bX bY bZ hE hx hy hz
  go_enter Tryz.func6, Tryz.ntmps6
  go_upto_region 1 with fail
  generalize (((w.alloc (.cells #[.bool s, .slice A1 n1 c1] 24)).alloc (.cells #[.bool t, .slice A2 n2 c2] 24)).alloc (.cells #[.bool u, .slice A3 n3 c3] 24)) = W0 at S1 S2 S3 BX BY BZ E0 V0 hlt ⊢
  refine wp_region_flow [(3, STy.is (.pointer (some ⟨w.heap.size, 0, none⟩))), (4, STy.is (.pointer (some ⟨w.heap.size + 1, 0, none⟩))), (5, STy.is (.pointer (some ⟨w.heap.size + 2, 0, none⟩))), (19, STy.is (.pointer (some ⟨w.heap.size, 1, none⟩))), (20, STy.is (.slice A1 n1 c1)), (21, STy.is (.int .i64 n1)),
      (22, STy.is (.bool false)), (23, STy.is (.bool false)), (24, STy.is (.pointer (some ⟨w.heap.size + 1, 1, none⟩))), (25, STy.is (.slice A2 n2 c2)), (26, STy.is (.int .i64 n2)), (27, STy.is (.bool true)),
      (28, STy.is (.bool true)), (29, STy.is (.bool true)), (34, STy.is (.bool true)), (35, STy.is (.bool true)), (39, STy.is (.bool true)), (40, STy.is (.bool true)),
      (44, STy.is (.bool true)), (45, STy.is (.bool true)), (49, STy.is (.bool true))]
      [3, 4, 5] [(23, false), (29, true), (35, true), (40, true), (45, true)] 203 31 (by kernel_rfl) rfl ⟨fun _ _ h => h, fun _ _ h => h, fun _ _ h => h, fun _ _ h => h, fun _ _ h => h, trivial⟩ ⟨rfl, rfl, rfl, trivial⟩ ?_ ?_
  · repeat' first
      | exact OpStepsG.nil
      | refine OpStepsG.skip (by rfl) ?_
      | refine OpStepsG.run ?_ ?_
      | exact st_move fun _ _ h => h
      | exact st_assign fun _ _ h => h
      | exact stb_addr1 (fun _ _ h => h) (fun _ => rfl)
      | exact st_cellU (fun _ _ h => h) (cell_on BX.out.2.1 (by omega)) (fun _ => rfl)
      | exact stb_box (fun _ _ h => h) (cell_on BX.out.1 (by omega)) (cell_on BX.out.2.1 (by omega)) (fun _ => rfl)
      | exact st_cellU (fun _ _ h => h) (cell_on BY.out.2.1 (by omega)) (fun _ => rfl)
      | exact stb_box (fun _ _ h => h) (cell_on BY.out.1 (by omega)) (cell_on BY.out.2.1 (by omega)) (fun _ => rfl)
      | exact st_cellU (fun _ _ h => h) (cell_on BZ.out.2.1 (by omega)) (fun _ => rfl)
      | exact stb_box (fun _ _ h => h) (cell_on BZ.out.1 (by omega)) (cell_on BZ.out.2.1 (by omega)) (fun _ => rfl)
      | exact st_lenU (fun _ _ h => h) (fun _ => rfl)
      | exact st_gtrI (fun _ _ h => h) rfl (fun _ => congrArg Value.bool HA)
      | exact st_gtrI (fun _ _ h => h) rfl (fun _ => congrArg Value.bool HB)
      | exact st_notB (u := true) (fun _ _ h => h) (fun _ => rfl)
      | exact st_notB (u := false) (fun _ _ h => h) (fun _ => rfl)
      | exact st_pickOr (u := true) (v := false) (fun _ _ h => h) (fun h => nomatch h) (fun _ => rfl)
      | exact st_pickOr (u := false) (v := true) (fun _ _ h => h) (fun _ => fun _ _ h => h) (fun _ => rfl)
      | exact st_pickOr (u := false) (v := false) (fun _ _ h => h) (fun _ => fun _ _ h => h) (fun _ => rfl)
  intro v w9 ho hb
  have e1 : v 49 = .bool true := ho.slot (d := 49) (by simp [dstD])
  clear ho
  simp only [List.append_eq, List.cons_append, List.nil_append, List.take, List.drop, List.map_cons, List.map_nil, dstD, Option.getD_some, putAll, Act.put, List.setIfInBounds_toArray, List.set_cons_succ, List.set_cons_zero, e1]
  clear e1
  have V1 := Lib.hid (V0.out.trans (hb.mono V0.out.size))
  have E1 := Lib.hid (E0.out.below hb)
  clear hb
  go_wp2_with fail
  refine (bworks E1.out).mono ?_
  rintro e w2 ⟨rfl, hb⟩
  have V2 := Lib.hid (V1.out.trans (hb.mono V1.out.size))
  clear hb
  go_wp2_with fail
  go_ret
  exact ⟨rfl, V2.out⟩
set_option maxRecDepth 20000 in
set_option maxHeartbeats 4000000 in
theorem bback_lc {w : World} {B : Nat} {s t u : Bool} {A1 A2 A3 : Option Addr} {n1 c1 n2 c2 n3 c3 : Nat} {xs ys zs : List Int} (h1 : Sl .u32 w B A1 n1 c1 xs) (h2 : Sl .u32 w B A2 n2 c2 ys) (h3 : Sl .u32 w B A3 n3 c3 zs) (hB : B ≤ w.heap.size) (hE : Env w) (hx : Dg 4294967296 xs) (hy : Dg 4294967296 ys) (hz : Dg 4294967296 zs) (HA : decide ((20 : Int) < (n1 : Int)) = false) (HB : decide ((20 : Int) < (n2 : Int)) = false) (HC : decide ((20 : Int) < (n3 : Int)) = true) :
    Calls Tryz.prog 6 #[.agg #[.bool s, .slice A1 n1 c1], .agg #[.bool t, .slice A2 n2 c2], .agg #[.bool u, .slice A3 n3 c3]] w fun e w' => e = .returned (.bool true) ∧ Below w.heap.size w w' := by
  obtain ⟨bX, bY, bZ, hlt, _⟩ := box_new3 (w := w) (v0 := .bool s) (v1 := .slice A1 n1 c1) (u0 := .bool t) (u1 := .slice A2 n2 c2) (x0 := .bool u) (x1 := .slice A3 n3 c3) (t := 24) (t2 := 24) (t3 := 24) (Below.refl _ _)
  have hb0 : Below w.heap.size w (((w.alloc (.cells #[.bool s, .slice A1 n1 c1] 24)).alloc (.cells #[.bool t, .slice A2 n2 c2] 24)).alloc (.cells #[.bool u, .slice A3 n3 c3] 24)) := (((Below.refl _ _).alloc (Nat.le_refl _) _).alloc (by rw [size_one]; omega) _).alloc (by rw [size_two]; omega) _
  have S1 := Lib.hid ((h1.below hb0 hB).more (Nat.le_trans hB hb0.size))
  have S2 := Lib.hid ((h2.below hb0 hB).more (Nat.le_trans hB hb0.size))
  have S3 := Lib.hid ((h3.below hb0 hB).more (Nat.le_trans hB hb0.size))
  have BX := Lib.hid bX
  have BY := Lib.hid bY
  have BZ := Lib.hid bZ
  have E0 := Lib.hid (hE.below hb0)
  have V0 := Lib.hid hb0
  have DX := Lib.hid hx
  have DY := Lib.hid hy
  have DZ := Lib.hid hz
  clear h1 h2 h3 hb0 bX bY bZ hE hx hy hz
  go_enter Tryz.func6, Tryz.ntmps6
  go_upto_region 1 with fail
  generalize (((w.alloc (.cells #[.bool s, .slice A1 n1 c1] 24)).alloc (.cells #[.bool t, .slice A2 n2 c2] 24)).alloc (.cells #[.bool u, .slice A3 n3 c3] 24)) = W0 at S1 S2 S3 BX BY BZ E0 V0 hlt ⊢
  refine wp_region_flow [(3, STy.is (.pointer (some ⟨w.heap.size, 0, none⟩))), (4, STy.is (.pointer (some ⟨w.heap.size + 1, 0, none⟩))), (5, STy.is (.pointer (some ⟨w.heap.size + 2, 0, none⟩))), (19, STy.is (.pointer (some ⟨w.heap.size, 1, none⟩))), (20, STy.is (.slice A1 n1 c1)), (21, STy.is (.int .i64 n1)),
      (22, STy.is (.bool false)), (23, STy.is (.bool false)), (24, STy.is (.pointer (some ⟨w.heap.size + 1, 1, none⟩))), (25, STy.is (.slice A2 n2 c2)), (26, STy.is (.int .i64 n2)), (27, STy.is (.bool false)),
      (28, STy.is (.bool false)), (29, STy.is (.bool false)), (30, STy.is (.pointer (some ⟨w.heap.size + 2, 1, none⟩))), (31, STy.is (.slice A3 n3 c3)), (32, STy.is (.int .i64 n3)), (33, STy.is (.bool true)),
      (34, STy.is (.bool true)), (35, STy.is (.bool true)), (39, STy.is (.bool true)), (40, STy.is (.bool true)), (44, STy.is (.bool true)), (45, STy.is (.bool true)),
      (49, STy.is (.bool true))]
      [3, 4, 5] [(23, false), (29, false), (35, true), (40, true), (45, true)] 203 31 (by kernel_rfl) rfl ⟨fun _ _ h => h, fun _ _ h => h, fun _ _ h => h, fun _ _ h => h, fun _ _ h => h, trivial⟩ ⟨rfl, rfl, rfl, trivial⟩ ?_ ?_
  · repeat' first
      | exact OpStepsG.nil
      | refine OpStepsG.skip (by rfl) ?_
      | refine OpStepsG.run ?_ ?_
      | exact st_move fun _ _ h => h
      | exact st_assign fun _ _ h => h
      | exact stb_addr1 (fun _ _ h => h) (fun _ => rfl)
      | exact st_cellU (fun _ _ h => h) (cell_on BX.out.2.1 (by omega)) (fun _ => rfl)
      | exact stb_box (fun _ _ h => h) (cell_on BX.out.1 (by omega)) (cell_on BX.out.2.1 (by omega)) (fun _ => rfl)
      | exact st_cellU (fun _ _ h => h) (cell_on BY.out.2.1 (by omega)) (fun _ => rfl)
      | exact stb_box (fun _ _ h => h) (cell_on BY.out.1 (by omega)) (cell_on BY.out.2.1 (by omega)) (fun _ => rfl)
      | exact st_cellU (fun _ _ h => h) (cell_on BZ.out.2.1 (by omega)) (fun _ => rfl)
      | exact stb_box (fun _ _ h => h) (cell_on BZ.out.1 (by omega)) (cell_on BZ.out.2.1 (by omega)) (fun _ => rfl)
      | exact st_lenU (fun _ _ h => h) (fun _ => rfl)
      | exact st_gtrI (fun _ _ h => h) rfl (fun _ => congrArg Value.bool HA)
      | exact st_gtrI (fun _ _ h => h) rfl (fun _ => congrArg Value.bool HB)
      | exact st_gtrI (fun _ _ h => h) rfl (fun _ => congrArg Value.bool HC)
      | exact st_notB (u := true) (fun _ _ h => h) (fun _ => rfl)
      | exact st_notB (u := false) (fun _ _ h => h) (fun _ => rfl)
      | exact st_pickOr (u := true) (v := false) (fun _ _ h => h) (fun h => nomatch h) (fun _ => rfl)
      | exact st_pickOr (u := false) (v := true) (fun _ _ h => h) (fun _ => fun _ _ h => h) (fun _ => rfl)
      | exact st_pickOr (u := false) (v := false) (fun _ _ h => h) (fun _ => fun _ _ h => h) (fun _ => rfl)
  intro v w9 ho hb
  have e1 : v 49 = .bool true := ho.slot (d := 49) (by simp [dstD])
  clear ho
  simp only [List.append_eq, List.cons_append, List.nil_append, List.take, List.drop, List.map_cons, List.map_nil, dstD, Option.getD_some, putAll, Act.put, List.setIfInBounds_toArray, List.set_cons_succ, List.set_cons_zero, e1]
  clear e1
  have V1 := Lib.hid (V0.out.trans (hb.mono V0.out.size))
  have E1 := Lib.hid (E0.out.below hb)
  clear hb
  go_wp2_with fail
  refine (bworks E1.out).mono ?_
  rintro e w2 ⟨rfl, hb⟩
  have V2 := Lib.hid (V1.out.trans (hb.mono V1.out.size))
  clear hb
  go_wp2_with fail
  go_ret
  exact ⟨rfl, V2.out⟩
set_option maxRecDepth 20000 in
set_option maxHeartbeats 4000000 in
theorem bback_ra {w : World} {B : Nat} {s t u : Bool} {A1 A2 A3 : Option Addr} {n1 c1 n2 c2 n3 c3 : Nat} {xs ys zs : List Int} (h1 : Sl .u32 w B A1 n1 c1 xs) (h2 : Sl .u32 w B A2 n2 c2 ys) (h3 : Sl .u32 w B A3 n3 c3 zs) (hB : B ≤ w.heap.size) (hE : Env w) (hx : Dg 4294967296 xs) (hy : Dg 4294967296 ys) (hz : Dg 4294967296 zs) (HA : decide ((20 : Int) < (n1 : Int)) = false) (HB : decide ((20 : Int) < (n2 : Int)) = false) (HC : decide ((20 : Int) < (n3 : Int)) = false) (RA : rgt s xs = false) :
    Calls Tryz.prog 6 #[.agg #[.bool s, .slice A1 n1 c1], .agg #[.bool t, .slice A2 n2 c2], .agg #[.bool u, .slice A3 n3 c3]] w fun e w' => e = .returned (.bool true) ∧ Below w.heap.size w w' := by
  obtain ⟨bX, bY, bZ, hlt, _⟩ := box_new3 (w := w) (v0 := .bool s) (v1 := .slice A1 n1 c1) (u0 := .bool t) (u1 := .slice A2 n2 c2) (x0 := .bool u) (x1 := .slice A3 n3 c3) (t := 24) (t2 := 24) (t3 := 24) (Below.refl _ _)
  have hb0 : Below w.heap.size w (((w.alloc (.cells #[.bool s, .slice A1 n1 c1] 24)).alloc (.cells #[.bool t, .slice A2 n2 c2] 24)).alloc (.cells #[.bool u, .slice A3 n3 c3] 24)) := (((Below.refl _ _).alloc (Nat.le_refl _) _).alloc (by rw [size_one]; omega) _).alloc (by rw [size_two]; omega) _
  have S1 := Lib.hid ((h1.below hb0 hB).more (Nat.le_trans hB hb0.size))
  have S2 := Lib.hid ((h2.below hb0 hB).more (Nat.le_trans hB hb0.size))
  have S3 := Lib.hid ((h3.below hb0 hB).more (Nat.le_trans hB hb0.size))
  have BX := Lib.hid bX
  have BY := Lib.hid bY
  have BZ := Lib.hid bZ
  have E0 := Lib.hid (hE.below hb0)
  have V0 := Lib.hid hb0
  have DX := Lib.hid hx
  have DY := Lib.hid hy
  have DZ := Lib.hid hz
  clear h1 h2 h3 hb0 bX bY bZ hE hx hy hz
  go_enter Tryz.func6, Tryz.ntmps6
  go_upto_region 1 with fail
  generalize (((w.alloc (.cells #[.bool s, .slice A1 n1 c1] 24)).alloc (.cells #[.bool t, .slice A2 n2 c2] 24)).alloc (.cells #[.bool u, .slice A3 n3 c3] 24)) = W0 at S1 S2 S3 BX BY BZ E0 V0 hlt ⊢
  refine wp_region_flow [(3, STy.is (.pointer (some ⟨w.heap.size, 0, none⟩))), (4, STy.is (.pointer (some ⟨w.heap.size + 1, 0, none⟩))), (5, STy.is (.pointer (some ⟨w.heap.size + 2, 0, none⟩))), (19, STy.is (.pointer (some ⟨w.heap.size, 1, none⟩))), (20, STy.is (.slice A1 n1 c1)), (21, STy.is (.int .i64 n1)),
      (22, STy.is (.bool false)), (23, STy.is (.bool false)), (24, STy.is (.pointer (some ⟨w.heap.size + 1, 1, none⟩))), (25, STy.is (.slice A2 n2 c2)), (26, STy.is (.int .i64 n2)), (27, STy.is (.bool false)),
      (28, STy.is (.bool false)), (29, STy.is (.bool false)), (30, STy.is (.pointer (some ⟨w.heap.size + 2, 1, none⟩))), (31, STy.is (.slice A3 n3 c3)), (32, STy.is (.int .i64 n3)), (33, STy.is (.bool false)),
      (34, STy.is (.bool false)), (35, STy.is (.bool false)), (36, STy.is (.agg #[.bool s, .slice A1 n1 c1])), (37, STy.is (.bool false)), (38, STy.is (.bool true)), (39, STy.is (.bool true)),
      (40, STy.is (.bool true)), (44, STy.is (.bool true)), (45, STy.is (.bool true)), (49, STy.is (.bool true))]
      [3, 4, 5] [(23, false), (29, false), (35, false), (40, true), (45, true)] 203 31 (by kernel_rfl) rfl ⟨fun _ _ h => h, fun _ _ h => h, fun _ _ h => h, fun _ _ h => h, fun _ _ h => h, trivial⟩ ⟨rfl, rfl, rfl, trivial⟩ ?_ ?_
  · repeat' first
      | exact OpStepsG.nil
      | refine OpStepsG.skip (by rfl) ?_
      | refine OpStepsG.run ?_ ?_
      | exact st_move fun _ _ h => h
      | exact st_assign fun _ _ h => h
      | exact stb_addr1 (fun _ _ h => h) (fun _ => rfl)
      | exact st_cellU (fun _ _ h => h) (cell_on BX.out.2.1 (by omega)) (fun _ => rfl)
      | exact stb_box (fun _ _ h => h) (cell_on BX.out.1 (by omega)) (cell_on BX.out.2.1 (by omega)) (fun _ => rfl)
      | exact st_cellU (fun _ _ h => h) (cell_on BY.out.2.1 (by omega)) (fun _ => rfl)
      | exact stb_box (fun _ _ h => h) (cell_on BY.out.1 (by omega)) (cell_on BY.out.2.1 (by omega)) (fun _ => rfl)
      | exact st_cellU (fun _ _ h => h) (cell_on BZ.out.2.1 (by omega)) (fun _ => rfl)
      | exact stb_box (fun _ _ h => h) (cell_on BZ.out.1 (by omega)) (cell_on BZ.out.2.1 (by omega)) (fun _ => rfl)
      | exact st_lenU (fun _ _ h => h) (fun _ => rfl)
      | exact st_gtrI (fun _ _ h => h) rfl (fun _ => congrArg Value.bool HA)
      | exact st_gtrI (fun _ _ h => h) rfl (fun _ => congrArg Value.bool HB)
      | exact st_gtrI (fun _ _ h => h) rfl (fun _ => congrArg Value.bool HC)
      | exact sn_right (fun _ _ h => h) S1.out RA (fun _ => rfl)
      | exact st_notB (u := true) (fun _ _ h => h) (fun _ => rfl)
      | exact st_notB (u := false) (fun _ _ h => h) (fun _ => rfl)
      | exact st_pickOr (u := true) (v := false) (fun _ _ h => h) (fun h => nomatch h) (fun _ => rfl)
      | exact st_pickOr (u := false) (v := true) (fun _ _ h => h) (fun _ => fun _ _ h => h) (fun _ => rfl)
      | exact st_pickOr (u := false) (v := false) (fun _ _ h => h) (fun _ => fun _ _ h => h) (fun _ => rfl)
  intro v w9 ho hb
  have e1 : v 49 = .bool true := ho.slot (d := 49) (by simp [dstD])
  clear ho
  simp only [List.append_eq, List.cons_append, List.nil_append, List.take, List.drop, List.map_cons, List.map_nil, dstD, Option.getD_some, putAll, Act.put, List.setIfInBounds_toArray, List.set_cons_succ, List.set_cons_zero, e1]
  clear e1
  have V1 := Lib.hid (V0.out.trans (hb.mono V0.out.size))
  have E1 := Lib.hid (E0.out.below hb)
  clear hb
  go_wp2_with fail
  refine (bworks E1.out).mono ?_
  rintro e w2 ⟨rfl, hb⟩
  have V2 := Lib.hid (V1.out.trans (hb.mono V1.out.size))
  clear hb
  go_wp2_with fail
  go_ret
  exact ⟨rfl, V2.out⟩
set_option maxRecDepth 20000 in
set_option maxHeartbeats 4000000 in
theorem bback_rb {w : World} {B : Nat} {s t u : Bool} {A1 A2 A3 : Option Addr} {n1 c1 n2 c2 n3 c3 : Nat} {xs ys zs : List Int} (h1 : Sl .u32 w B A1 n1 c1 xs) (h2 : Sl .u32 w B A2 n2 c2 ys) (h3 : Sl .u32 w B A3 n3 c3 zs) (hB : B ≤ w.heap.size) (hE : Env w) (hx : Dg 4294967296 xs) (hy : Dg 4294967296 ys) (hz : Dg 4294967296 zs) (HA : decide ((20 : Int) < (n1 : Int)) = false) (HB : decide ((20 : Int) < (n2 : Int)) = false) (HC : decide ((20 : Int) < (n3 : Int)) = false) (RA : rgt s xs = true) (RB : rgt t ys = false) :
    Calls Tryz.prog 6 #[.agg #[.bool s, .slice A1 n1 c1], .agg #[.bool t, .slice A2 n2 c2], .agg #[.bool u, .slice A3 n3 c3]] w fun e w' => e = .returned (.bool true) ∧ Below w.heap.size w w' := by
  obtain ⟨bX, bY, bZ, hlt, _⟩ := box_new3 (w := w) (v0 := .bool s) (v1 := .slice A1 n1 c1) (u0 := .bool t) (u1 := .slice A2 n2 c2) (x0 := .bool u) (x1 := .slice A3 n3 c3) (t := 24) (t2 := 24) (t3 := 24) (Below.refl _ _)
  have hb0 : Below w.heap.size w (((w.alloc (.cells #[.bool s, .slice A1 n1 c1] 24)).alloc (.cells #[.bool t, .slice A2 n2 c2] 24)).alloc (.cells #[.bool u, .slice A3 n3 c3] 24)) := (((Below.refl _ _).alloc (Nat.le_refl _) _).alloc (by rw [size_one]; omega) _).alloc (by rw [size_two]; omega) _
  have S1 := Lib.hid ((h1.below hb0 hB).more (Nat.le_trans hB hb0.size))
  have S2 := Lib.hid ((h2.below hb0 hB).more (Nat.le_trans hB hb0.size))
  have S3 := Lib.hid ((h3.below hb0 hB).more (Nat.le_trans hB hb0.size))
  have BX := Lib.hid bX
  have BY := Lib.hid bY
  have BZ := Lib.hid bZ
  have E0 := Lib.hid (hE.below hb0)
  have V0 := Lib.hid hb0
  have DX := Lib.hid hx
  have DY := Lib.hid hy
  have DZ := Lib.hid hz
  clear h1 h2 h3 hb0 bX bY bZ hE hx hy hz
  go_enter Tryz.func6, Tryz.ntmps6
  go_upto_region 1 with fail
  generalize (((w.alloc (.cells #[.bool s, .slice A1 n1 c1] 24)).alloc (.cells #[.bool t, .slice A2 n2 c2] 24)).alloc (.cells #[.bool u, .slice A3 n3 c3] 24)) = W0 at S1 S2 S3 BX BY BZ E0 V0 hlt ⊢
  refine wp_region_flow [(3, STy.is (.pointer (some ⟨w.heap.size, 0, none⟩))), (4, STy.is (.pointer (some ⟨w.heap.size + 1, 0, none⟩))), (5, STy.is (.pointer (some ⟨w.heap.size + 2, 0, none⟩))), (19, STy.is (.pointer (some ⟨w.heap.size, 1, none⟩))), (20, STy.is (.slice A1 n1 c1)), (21, STy.is (.int .i64 n1)),
      (22, STy.is (.bool false)), (23, STy.is (.bool false)), (24, STy.is (.pointer (some ⟨w.heap.size + 1, 1, none⟩))), (25, STy.is (.slice A2 n2 c2)), (26, STy.is (.int .i64 n2)), (27, STy.is (.bool false)),
      (28, STy.is (.bool false)), (29, STy.is (.bool false)), (30, STy.is (.pointer (some ⟨w.heap.size + 2, 1, none⟩))), (31, STy.is (.slice A3 n3 c3)), (32, STy.is (.int .i64 n3)), (33, STy.is (.bool false)),
      (34, STy.is (.bool false)), (35, STy.is (.bool false)), (36, STy.is (.agg #[.bool s, .slice A1 n1 c1])), (37, STy.is (.bool true)), (38, STy.is (.bool false)), (39, STy.is (.bool false)),
      (40, STy.is (.bool false)), (41, STy.is (.agg #[.bool t, .slice A2 n2 c2])), (42, STy.is (.bool false)), (43, STy.is (.bool true)), (44, STy.is (.bool true)), (45, STy.is (.bool true)),
      (49, STy.is (.bool true))]
      [3, 4, 5] [(23, false), (29, false), (35, false), (40, false), (45, true)] 203 31 (by kernel_rfl) rfl ⟨fun _ _ h => h, fun _ _ h => h, fun _ _ h => h, fun _ _ h => h, fun _ _ h => h, trivial⟩ ⟨rfl, rfl, rfl, trivial⟩ ?_ ?_
  · repeat' first
      | exact OpStepsG.nil
      | refine OpStepsG.skip (by rfl) ?_
      | refine OpStepsG.run ?_ ?_
      | exact st_move fun _ _ h => h
      | exact st_assign fun _ _ h => h
      | exact stb_addr1 (fun _ _ h => h) (fun _ => rfl)
      | exact st_cellU (fun _ _ h => h) (cell_on BX.out.2.1 (by omega)) (fun _ => rfl)
      | exact stb_box (fun _ _ h => h) (cell_on BX.out.1 (by omega)) (cell_on BX.out.2.1 (by omega)) (fun _ => rfl)
      | exact st_cellU (fun _ _ h => h) (cell_on BY.out.2.1 (by omega)) (fun _ => rfl)
      | exact stb_box (fun _ _ h => h) (cell_on BY.out.1 (by omega)) (cell_on BY.out.2.1 (by omega)) (fun _ => rfl)
      | exact st_cellU (fun _ _ h => h) (cell_on BZ.out.2.1 (by omega)) (fun _ => rfl)
      | exact stb_box (fun _ _ h => h) (cell_on BZ.out.1 (by omega)) (cell_on BZ.out.2.1 (by omega)) (fun _ => rfl)
      | exact st_lenU (fun _ _ h => h) (fun _ => rfl)
      | exact st_gtrI (fun _ _ h => h) rfl (fun _ => congrArg Value.bool HA)
      | exact st_gtrI (fun _ _ h => h) rfl (fun _ => congrArg Value.bool HB)
      | exact st_gtrI (fun _ _ h => h) rfl (fun _ => congrArg Value.bool HC)
      | exact sn_right (fun _ _ h => h) S1.out RA (fun _ => rfl)
      | exact sn_right (fun _ _ h => h) S2.out RB (fun _ => rfl)
      | exact st_notB (u := true) (fun _ _ h => h) (fun _ => rfl)
      | exact st_notB (u := false) (fun _ _ h => h) (fun _ => rfl)
      | exact st_pickOr (u := true) (v := false) (fun _ _ h => h) (fun h => nomatch h) (fun _ => rfl)
      | exact st_pickOr (u := false) (v := true) (fun _ _ h => h) (fun _ => fun _ _ h => h) (fun _ => rfl)
      | exact st_pickOr (u := false) (v := false) (fun _ _ h => h) (fun _ => fun _ _ h => h) (fun _ => rfl)
  intro v w9 ho hb
  have e1 : v 49 = .bool true := ho.slot (d := 49) (by simp [dstD])
  clear ho
  simp only [List.append_eq, List.cons_append, List.nil_append, List.take, List.drop, List.map_cons, List.map_nil, dstD, Option.getD_some, putAll, Act.put, List.setIfInBounds_toArray, List.set_cons_succ, List.set_cons_zero, e1]
  clear e1
  have V1 := Lib.hid (V0.out.trans (hb.mono V0.out.size))
  have E1 := Lib.hid (E0.out.below hb)
  clear hb
  go_wp2_with fail
  refine (bworks E1.out).mono ?_
  rintro e w2 ⟨rfl, hb⟩
  have V2 := Lib.hid (V1.out.trans (hb.mono V1.out.size))
  clear hb
  go_wp2_with fail
  go_ret
  exact ⟨rfl, V2.out⟩
set_option maxRecDepth 20000 in
set_option maxHeartbeats 4000000 in
theorem bback_rc {w : World} {B : Nat} {s t u : Bool} {A1 A2 A3 : Option Addr} {n1 c1 n2 c2 n3 c3 : Nat} {xs ys zs : List Int} (h1 : Sl .u32 w B A1 n1 c1 xs) (h2 : Sl .u32 w B A2 n2 c2 ys) (h3 : Sl .u32 w B A3 n3 c3 zs) (hB : B ≤ w.heap.size) (hE : Env w) (hx : Dg 4294967296 xs) (hy : Dg 4294967296 ys) (hz : Dg 4294967296 zs) (HA : decide ((20 : Int) < (n1 : Int)) = false) (HB : decide ((20 : Int) < (n2 : Int)) = false) (HC : decide ((20 : Int) < (n3 : Int)) = false) (RA : rgt s xs = true) (RB : rgt t ys = true) (RC : rgt u zs = false) :
    Calls Tryz.prog 6 #[.agg #[.bool s, .slice A1 n1 c1], .agg #[.bool t, .slice A2 n2 c2], .agg #[.bool u, .slice A3 n3 c3]] w fun e w' => e = .returned (.bool true) ∧ Below w.heap.size w w' := by
  obtain ⟨bX, bY, bZ, hlt, _⟩ := box_new3 (w := w) (v0 := .bool s) (v1 := .slice A1 n1 c1) (u0 := .bool t) (u1 := .slice A2 n2 c2) (x0 := .bool u) (x1 := .slice A3 n3 c3) (t := 24) (t2 := 24) (t3 := 24) (Below.refl _ _)
  have hb0 : Below w.heap.size w (((w.alloc (.cells #[.bool s, .slice A1 n1 c1] 24)).alloc (.cells #[.bool t, .slice A2 n2 c2] 24)).alloc (.cells #[.bool u, .slice A3 n3 c3] 24)) := (((Below.refl _ _).alloc (Nat.le_refl _) _).alloc (by rw [size_one]; omega) _).alloc (by rw [size_two]; omega) _
  have S1 := Lib.hid ((h1.below hb0 hB).more (Nat.le_trans hB hb0.size))
  have S2 := Lib.hid ((h2.below hb0 hB).more (Nat.le_trans hB hb0.size))
  have S3 := Lib.hid ((h3.below hb0 hB).more (Nat.le_trans hB hb0.size))
  have BX := Lib.hid bX
  have BY := Lib.hid bY
  have BZ := Lib.hid bZ
  have E0 := Lib.hid (hE.below hb0)
  have V0 := Lib.hid hb0
  have DX := Lib.hid hx
  have DY := Lib.hid hy
  have DZ := Lib.hid hz
  clear h1 h2 h3 hb0 bX bY bZ hE hx hy hz
  go_enter Tryz.func6, Tryz.ntmps6
  go_upto_region 1 with fail
  generalize (((w.alloc (.cells #[.bool s, .slice A1 n1 c1] 24)).alloc (.cells #[.bool t, .slice A2 n2 c2] 24)).alloc (.cells #[.bool u, .slice A3 n3 c3] 24)) = W0 at S1 S2 S3 BX BY BZ E0 V0 hlt ⊢
  refine wp_region_flow [(3, STy.is (.pointer (some ⟨w.heap.size, 0, none⟩))), (4, STy.is (.pointer (some ⟨w.heap.size + 1, 0, none⟩))), (5, STy.is (.pointer (some ⟨w.heap.size + 2, 0, none⟩))), (19, STy.is (.pointer (some ⟨w.heap.size, 1, none⟩))), (20, STy.is (.slice A1 n1 c1)), (21, STy.is (.int .i64 n1)),
      (22, STy.is (.bool false)), (23, STy.is (.bool false)), (24, STy.is (.pointer (some ⟨w.heap.size + 1, 1, none⟩))), (25, STy.is (.slice A2 n2 c2)), (26, STy.is (.int .i64 n2)), (27, STy.is (.bool false)),
      (28, STy.is (.bool false)), (29, STy.is (.bool false)), (30, STy.is (.pointer (some ⟨w.heap.size + 2, 1, none⟩))), (31, STy.is (.slice A3 n3 c3)), (32, STy.is (.int .i64 n3)), (33, STy.is (.bool false)),
      (34, STy.is (.bool false)), (35, STy.is (.bool false)), (36, STy.is (.agg #[.bool s, .slice A1 n1 c1])), (37, STy.is (.bool true)), (38, STy.is (.bool false)), (39, STy.is (.bool false)),
      (40, STy.is (.bool false)), (41, STy.is (.agg #[.bool t, .slice A2 n2 c2])), (42, STy.is (.bool true)), (43, STy.is (.bool false)), (44, STy.is (.bool false)), (45, STy.is (.bool false)),
      (46, STy.is (.agg #[.bool u, .slice A3 n3 c3])), (47, STy.is (.bool false)), (48, STy.is (.bool true)), (49, STy.is (.bool true))]
      [3, 4, 5] [(23, false), (29, false), (35, false), (40, false), (45, false)] 203 31 (by kernel_rfl) rfl ⟨fun _ _ h => h, fun _ _ h => h, fun _ _ h => h, fun _ _ h => h, fun _ _ h => h, trivial⟩ ⟨rfl, rfl, rfl, trivial⟩ ?_ ?_
  · repeat' first
      | exact OpStepsG.nil
      | refine OpStepsG.skip (by rfl) ?_
      | refine OpStepsG.run ?_ ?_
      | exact st_move fun _ _ h => h
      | exact st_assign fun _ _ h => h
      | exact stb_addr1 (fun _ _ h => h) (fun _ => rfl)
      | exact st_cellU (fun _ _ h => h) (cell_on BX.out.2.1 (by omega)) (fun _ => rfl)
      | exact stb_box (fun _ _ h => h) (cell_on BX.out.1 (by omega)) (cell_on BX.out.2.1 (by omega)) (fun _ => rfl)
      | exact st_cellU (fun _ _ h => h) (cell_on BY.out.2.1 (by omega)) (fun _ => rfl)
      | exact stb_box (fun _ _ h => h) (cell_on BY.out.1 (by omega)) (cell_on BY.out.2.1 (by omega)) (fun _ => rfl)
      | exact st_cellU (fun _ _ h => h) (cell_on BZ.out.2.1 (by omega)) (fun _ => rfl)
      | exact stb_box (fun _ _ h => h) (cell_on BZ.out.1 (by omega)) (cell_on BZ.out.2.1 (by omega)) (fun _ => rfl)
      | exact st_lenU (fun _ _ h => h) (fun _ => rfl)
      | exact st_gtrI (fun _ _ h => h) rfl (fun _ => congrArg Value.bool HA)
      | exact st_gtrI (fun _ _ h => h) rfl (fun _ => congrArg Value.bool HB)
      | exact st_gtrI (fun _ _ h => h) rfl (fun _ => congrArg Value.bool HC)
      | exact sn_right (fun _ _ h => h) S1.out RA (fun _ => rfl)
      | exact sn_right (fun _ _ h => h) S2.out RB (fun _ => rfl)
      | exact sn_right (fun _ _ h => h) S3.out RC (fun _ => rfl)
      | exact st_notB (u := true) (fun _ _ h => h) (fun _ => rfl)
      | exact st_notB (u := false) (fun _ _ h => h) (fun _ => rfl)
      | exact st_pickOr (u := true) (v := false) (fun _ _ h => h) (fun h => nomatch h) (fun _ => rfl)
      | exact st_pickOr (u := false) (v := true) (fun _ _ h => h) (fun _ => fun _ _ h => h) (fun _ => rfl)
      | exact st_pickOr (u := false) (v := false) (fun _ _ h => h) (fun _ => fun _ _ h => h) (fun _ => rfl)
  intro v w9 ho hb
  have e1 : v 49 = .bool true := ho.slot (d := 49) (by simp [dstD])
  clear ho
  simp only [List.append_eq, List.cons_append, List.nil_append, List.take, List.drop, List.map_cons, List.map_nil, dstD, Option.getD_some, putAll, Act.put, List.setIfInBounds_toArray, List.set_cons_succ, List.set_cons_zero, e1]
  clear e1
  have V1 := Lib.hid (V0.out.trans (hb.mono V0.out.size))
  have E1 := Lib.hid (E0.out.below hb)
  clear hb
  go_wp2_with fail
  refine (bworks E1.out).mono ?_
  rintro e w2 ⟨rfl, hb⟩
  have V2 := Lib.hid (V1.out.trans (hb.mono V1.out.size))
  clear hb
  go_wp2_with fail
  go_ret
  exact ⟨rfl, V2.out⟩
end Go.Proofs.YtbjooeapjhaapaaGreatDoor
