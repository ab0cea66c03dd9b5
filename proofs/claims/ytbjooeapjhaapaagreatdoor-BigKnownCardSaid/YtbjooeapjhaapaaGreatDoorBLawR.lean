/- tallagelaw03.BigReckons: the walk. -/
import Derived.Test.YtbjooeapjhaapaaGreatDoorBLawV
namespace Go.Proofs.YtbjooeapjhaapaaGreatDoor
open Go Go.RowKit

set_option maxRecDepth 20000 in
set_option maxHeartbeats 4000000 in
theorem breckons_la {w : World} {B : Nat} {s t : Bool} {A1 A2 : Option Addr} {n1 c1 n2 c2 : Nat} {xs ys : List Int} (h1 : Sl .u32 w B A1 n1 c1 xs) (h2 : Sl .u32 w B A2 n2 c2 ys) (hB : B ≤ w.heap.size) (hE : Env w) (hx : Dg 4294967296 xs) (hy : Dg 4294967296 ys) (HA : decide ((30 : Int) < (n1 : Int)) = true) :
    Calls Tryz.prog 3 #[.agg #[.bool s, .slice A1 n1 c1], .agg #[.bool t, .slice A2 n2 c2]] w fun e w' => e = .returned (.bool true) ∧ Below w.heap.size w w' := by
  obtain ⟨bX, bY, hlt, _⟩ := box_new2 (w := w) (v0 := .bool s) (v1 := .slice A1 n1 c1) (u0 := .bool t) (u1 := .slice A2 n2 c2) (t := 24) (t2 := 24) (Below.refl _ _)
  have hb0 : Below w.heap.size w ((w.alloc (.cells #[.bool s, .slice A1 n1 c1] 24)).alloc (.cells #[.bool t, .slice A2 n2 c2] 24)) := ((Below.refl _ _).alloc (Nat.le_refl _) _).alloc (by rw [size_one]; omega) _
  have S1 := Lib.hid ((h1.below hb0 hB).more (Nat.le_trans hB hb0.size))
  have S2 := Lib.hid ((h2.below hb0 hB).more (Nat.le_trans hB hb0.size))
  have BX := Lib.hid bX
  have BY := Lib.hid bY
  have E0 := Lib.hid (hE.below hb0)
  have V0 := Lib.hid hb0
  have DX := Lib.hid hx
  have DY := Lib.hid hy
  clear h1 h2 hb0 bX bY hE hx hy
  go_enter Tryz.func3, Tryz.ntmps3
  go_upto_region 1 with fail
  generalize ((w.alloc (.cells #[.bool s, .slice A1 n1 c1] 24)).alloc (.cells #[.bool t, .slice A2 n2 c2] 24)) = W0 at S1 S2 BX BY E0 V0 hlt ⊢
  refine wp_region_flow [(2, STy.is (.pointer (some ⟨w.heap.size, 0, none⟩))), (3, STy.is (.pointer (some ⟨w.heap.size + 1, 0, none⟩))), (17, STy.is (.pointer (some ⟨w.heap.size, 1, none⟩))), (18, STy.is (.slice A1 n1 c1)), (19, STy.is (.int .i64 n1)), (20, STy.is (.bool true)),
      (21, STy.is (.bool true)), (26, STy.is (.bool true))]
      [2, 3] [(21, true)] 152 10 (by kernel_rfl) rfl ⟨fun _ _ h => h, trivial⟩ ⟨rfl, rfl, trivial⟩ ?_ ?_
  · repeat' first
      | exact OpStepsG.nil
      | refine OpStepsG.skip (by rfl) ?_
      | refine OpStepsG.run ?_ ?_
      | exact st_move fun _ _ h => h
      | exact st_assign fun _ _ h => h
      | exact stb_addr1 (fun _ _ h => h) (fun _ => rfl)
      | exact st_cellU (fun _ _ h => h) (cell_on BX.out.2.1 (by omega)) (fun _ => rfl)
      | exact stb_box (fun _ _ h => h) (cell_on BX.out.1 (by omega)) (cell_on BX.out.2.1 (by omega)) (fun _ => rfl)
      | exact st_cellU (fun _ _ h => h) (cell_on BY.out.2.1 (by omega)) (fun _ => rfl)
      | exact stb_box (fun _ _ h => h) (cell_on BY.out.1 (by omega)) (cell_on BY.out.2.1 (by omega)) (fun _ => rfl)
      | exact st_lenU (fun _ _ h => h) (fun _ => rfl)
      | exact st_gtrI (fun _ _ h => h) rfl (fun _ => congrArg Value.bool HA)
      | exact st_pickOr (u := true) (v := false) (fun _ _ h => h) (fun h => nomatch h) (fun _ => rfl)
      | exact st_pickOr (u := false) (v := true) (fun _ _ h => h) (fun _ => fun _ _ h => h) (fun _ => rfl)
      | exact st_pickOr (u := false) (v := false) (fun _ _ h => h) (fun _ => fun _ _ h => h) (fun _ => rfl)
  intro v w9 ho hb
  have e1 : v 26 = .bool true := ho.slot (d := 26) (by simp [dstD])
  clear ho
  simp only [List.append_eq, List.cons_append, List.nil_append, List.take, List.drop, List.map_cons, List.map_nil, dstD, Option.getD_some, putAll, Act.put, List.setIfInBounds_toArray, List.set_cons_succ, List.set_cons_zero, e1]
  clear e1
  have V1 := Lib.hid (V0.out.trans (hb.mono V0.out.size))
  have E1 := Lib.hid (E0.out.below hb)
  clear hb
  go_wp2_with fail
  refine (bworks E1.out).mono ?_
  rintro e w2 ⟨rfl, hb⟩
  have V2 := Lib.hid (V1.out.trans (hb.mono V1.out.size))
  clear hb
  go_wp2_with fail
  go_ret
  exact ⟨rfl, V2.out⟩
set_option maxRecDepth 20000 in
set_option maxHeartbeats 4000000 in
theorem breckons_lb {w : World} {B : Nat} {s t : Bool} {A1 A2 : Option Addr} {n1 c1 n2 c2 : Nat} {xs ys : List Int} (h1 : Sl .u32 w B A1 n1 c1 xs) (h2 : Sl .u32 w B A2 n2 c2 ys) (hB : B ≤ w.heap.size) (hE : Env w) (hx : Dg 4294967296 xs) (hy : Dg 4294967296 ys) (HA : decide ((30 : Int) < (n1 : Int)) = false) (HB : decide ((30 : Int) < (n2 : Int)) = true) :
    Calls Tryz.prog 3 #[.agg #[.bool s, .slice A1 n1 c1], .agg #[.bool t, .slice A2 n2 c2]] w fun e w' => e = .returned (.bool true) ∧ Below w.heap.size w w' := by
  obtain ⟨bX, bY, hlt, _⟩ := box_new2 (w := w) (v0 := .bool s) (v1 := .slice A1 n1 c1) (u0 := .bool t) (u1 := .slice A2 n2 c2) (t := 24) (t2 := 24) (Below.refl _ _)
  have hb0 : Below w.heap.size w ((w.alloc (.cells #[.bool s, .slice A1 n1 c1] 24)).alloc (.cells #[.bool t, .slice A2 n2 c2] 24)) := ((Below.refl _ _).alloc (Nat.le_refl _) _).alloc (by rw [size_one]; omega) _
  have S1 := Lib.hid ((h1.below hb0 hB).more (Nat.le_trans hB hb0.size))
  have S2 := Lib.hid ((h2.below hb0 hB).more (Nat.le_trans hB hb0.size))
  have BX := Lib.hid bX
  have BY := Lib.hid bY
  have E0 := Lib.hid (hE.below hb0)
  have V0 := Lib.hid hb0
  have DX := Lib.hid hx
  have DY := Lib.hid hy
  clear h1 h2 hb0 bX bY hE hx hy
  go_enter Tryz.func3, Tryz.ntmps3
  go_upto_region 1 with fail
  generalize ((w.alloc (.cells #[.bool s, .slice A1 n1 c1] 24)).alloc (.cells #[.bool t, .slice A2 n2 c2] 24)) = W0 at S1 S2 BX BY E0 V0 hlt ⊢
  refine wp_region_flow [(2, STy.is (.pointer (some ⟨w.heap.size, 0, none⟩))), (3, STy.is (.pointer (some ⟨w.heap.size + 1, 0, none⟩))), (17, STy.is (.pointer (some ⟨w.heap.size, 1, none⟩))), (18, STy.is (.slice A1 n1 c1)), (19, STy.is (.int .i64 n1)), (20, STy.is (.bool false)),
      (21, STy.is (.bool false)), (22, STy.is (.pointer (some ⟨w.heap.size + 1, 1, none⟩))), (23, STy.is (.slice A2 n2 c2)), (24, STy.is (.int .i64 n2)), (25, STy.is (.bool true)), (26, STy.is (.bool true))]
      [2, 3] [(21, false)] 152 10 (by kernel_rfl) rfl ⟨fun _ _ h => h, trivial⟩ ⟨rfl, rfl, trivial⟩ ?_ ?_
  · repeat' first
      | exact OpStepsG.nil
      | refine OpStepsG.skip (by rfl) ?_
      | refine OpStepsG.run ?_ ?_
      | exact st_move fun _ _ h => h
      | exact st_assign fun _ _ h => h
      | exact stb_addr1 (fun _ _ h => h) (fun _ => rfl)
      | exact st_cellU (fun _ _ h => h) (cell_on BX.out.2.1 (by omega)) (fun _ => rfl)
      | exact stb_box (fun _ _ h => h) (cell_on BX.out.1 (by omega)) (cell_on BX.out.2.1 (by omega)) (fun _ => rfl)
      | exact st_cellU (fun _ _ h => h) (cell_on BY.out.2.1 (by omega)) (fun _ => rfl)
      | exact stb_box (fun _ _ h => h) (cell_on BY.out.1 (by omega)) (cell_on BY.out.2.1 (by omega)) (fun _ => rfl)
      | exact st_lenU (fun _ _ h => h) (fun _ => rfl)
      | exact st_gtrI (fun _ _ h => h) rfl (fun _ => congrArg Value.bool HA)
      | exact st_gtrI (fun _ _ h => h) rfl (fun _ => congrArg Value.bool HB)
      | exact st_pickOr (u := true) (v := false) (fun _ _ h => h) (fun h => nomatch h) (fun _ => rfl)
      | exact st_pickOr (u := false) (v := true) (fun _ _ h => h) (fun _ => fun _ _ h => h) (fun _ => rfl)
      | exact st_pickOr (u := false) (v := false) (fun _ _ h => h) (fun _ => fun _ _ h => h) (fun _ => rfl)
  intro v w9 ho hb
  have e1 : v 26 = .bool true := ho.slot (d := 26) (by simp [dstD])
  clear ho
  simp only [List.append_eq, List.cons_append, List.nil_append, List.take, List.drop, List.map_cons, List.map_nil, dstD, Option.getD_some, putAll, Act.put, List.setIfInBounds_toArray, List.set_cons_succ, List.set_cons_zero, e1]
  clear e1
  have V1 := Lib.hid (V0.out.trans (hb.mono V0.out.size))
  have E1 := Lib.hid (E0.out.below hb)
  clear hb
  go_wp2_with fail
  refine (bworks E1.out).mono ?_
  rintro e w2 ⟨rfl, hb⟩
  have V2 := Lib.hid (V1.out.trans (hb.mono V1.out.size))
  clear hb
  go_wp2_with fail
  go_ret
  exact ⟨rfl, V2.out⟩
set_option maxRecDepth 20000 in
set_option maxHeartbeats 8000000 in
theorem breckons_main {w : World} {B : Nat} {s t : Bool} {A1 A2 : Option Addr} {n1 c1 n2 c2 : Nat} {xs ys : List Int} (h1 : Sl .u32 w B A1 n1 c1 xs) (h2 : Sl .u32 w B A2 n2 c2 ys) (hB : B ≤ w.heap.size) (hE : Env w) (hx : Dg 4294967296 xs) (hy : Dg 4294967296 ys) (HA : decide ((30 : Int) < (n1 : Int)) = false) (HB : decide ((30 : Int) < (n2 : Int)) = false) :
    Calls Tryz.prog 3 #[.agg #[.bool s, .slice A1 n1 c1], .agg #[.bool t, .slice A2 n2 c2]] w fun e w' => e = .returned (.bool true) ∧ Below w.heap.size w w' := by
  obtain ⟨bX, bY, hlt, _⟩ := box_new2 (w := w) (v0 := .bool s) (v1 := .slice A1 n1 c1) (u0 := .bool t) (u1 := .slice A2 n2 c2) (t := 24) (t2 := 24) (Below.refl _ _)
  have hb0 : Below w.heap.size w ((w.alloc (.cells #[.bool s, .slice A1 n1 c1] 24)).alloc (.cells #[.bool t, .slice A2 n2 c2] 24)) := ((Below.refl _ _).alloc (Nat.le_refl _) _).alloc (by rw [size_one]; omega) _
  have S1 := Lib.hid ((h1.below hb0 hB).more (Nat.le_trans hB hb0.size))
  have S2 := Lib.hid ((h2.below hb0 hB).more (Nat.le_trans hB hb0.size))
  have BX := Lib.hid bX
  have BY := Lib.hid bY
  have E0 := Lib.hid (hE.below hb0)
  have V0 := Lib.hid hb0
  have DX := Lib.hid hx
  have DY := Lib.hid hy
  clear h1 h2 hb0 bX bY hE hx hy
  go_enter Tryz.func3, Tryz.ntmps3
  go_upto_region 1 with fail
  generalize ((w.alloc (.cells #[.bool s, .slice A1 n1 c1] 24)).alloc (.cells #[.bool t, .slice A2 n2 c2] 24)) = W0 at S1 S2 BX BY E0 V0 hlt ⊢
  refine wp_region_flow [(2, STy.is (.pointer (some ⟨w.heap.size, 0, none⟩))), (3, STy.is (.pointer (some ⟨w.heap.size + 1, 0, none⟩))), (17, STy.is (.pointer (some ⟨w.heap.size, 1, none⟩))), (18, STy.is (.slice A1 n1 c1)), (19, STy.is (.int .i64 n1)), (20, STy.is (.bool false)),
      (21, STy.is (.bool false)), (22, STy.is (.pointer (some ⟨w.heap.size + 1, 1, none⟩))), (23, STy.is (.slice A2 n2 c2)), (24, STy.is (.int .i64 n2)), (25, STy.is (.bool false)), (26, STy.is (.bool false))]
      [2, 3] [(21, false)] 152 10 (by kernel_rfl) rfl ⟨fun _ _ h => h, trivial⟩ ⟨rfl, rfl, trivial⟩ ?_ ?_
  · repeat' first
      | exact OpStepsG.nil
      | refine OpStepsG.skip (by rfl) ?_
      | refine OpStepsG.run ?_ ?_
      | exact st_move fun _ _ h => h
      | exact st_assign fun _ _ h => h
      | exact stb_addr1 (fun _ _ h => h) (fun _ => rfl)
      | exact st_cellU (fun _ _ h => h) (cell_on BX.out.2.1 (by omega)) (fun _ => rfl)
      | exact stb_box (fun _ _ h => h) (cell_on BX.out.1 (by omega)) (cell_on BX.out.2.1 (by omega)) (fun _ => rfl)
      | exact st_cellU (fun _ _ h => h) (cell_on BY.out.2.1 (by omega)) (fun _ => rfl)
      | exact stb_box (fun _ _ h => h) (cell_on BY.out.1 (by omega)) (cell_on BY.out.2.1 (by omega)) (fun _ => rfl)
      | exact st_lenU (fun _ _ h => h) (fun _ => rfl)
      | exact st_gtrI (fun _ _ h => h) rfl (fun _ => congrArg Value.bool HA)
      | exact st_gtrI (fun _ _ h => h) rfl (fun _ => congrArg Value.bool HB)
      | exact st_pickOr (u := true) (v := false) (fun _ _ h => h) (fun h => nomatch h) (fun _ => rfl)
      | exact st_pickOr (u := false) (v := true) (fun _ _ h => h) (fun _ => fun _ _ h => h) (fun _ => rfl)
      | exact st_pickOr (u := false) (v := false) (fun _ _ h => h) (fun _ => fun _ _ h => h) (fun _ => rfl)
  intro v w9 ho hb
  have e1 : v 26 = .bool false := ho.slot (d := 26) (by simp [dstD])
  clear ho
  simp only [List.append_eq, List.cons_append, List.nil_append, List.take, List.drop, List.map_cons, List.map_nil, dstD, Option.getD_some, putAll, Act.put, List.setIfInBounds_toArray, List.set_cons_succ, List.set_cons_zero, e1]
  clear e1
  have q1 := of_decide_eq_false HA
  have q2 := of_decide_eq_false HB
  have hn1 : n1 ≤ 30 := by omega
  have hn2 : n2 ≤ 30 := by omega
  replace S1 := Lib.hid ((S1.out.below hb (Nat.le_refl _)).more hb.size)
  replace S2 := Lib.hid ((S2.out.below hb (Nat.le_refl _)).more hb.size)
  replace BX := Lib.hid (Boxed.below BX.out hb (by omega))
  replace BY := Lib.hid (Boxed.below BY.out hb (by omega))
  have V1 := Lib.hid (V0.out.trans (hb.mono V0.out.size))
  have E1 := Lib.hid (E0.out.below hb)
  replace hlt := Nat.lt_of_lt_of_le hlt hb.size
  clear hb V0 E0 q1 q2 HA HB
  go_upto_region 3 with fail
  refine wp_region_chain [(2, STy.is (.pointer (some ⟨w.heap.size, 0, none⟩))), (3, STy.is (.pointer (some ⟨w.heap.size + 1, 0, none⟩))), (28, STy.is (.agg #[.bool s, .slice A1 n1 c1])), (29, STy.refO w9.heap.size s xs), (30, STy.is (.agg #[.bool t, .slice A2 n2 c2])), (31, STy.refO w9.heap.size t ys), (5, STy.nbox3 w9.heap.size), (6, STy.nbox3 w9.heap.size)]
    [2, 3] [] 152 6 (by kernel_rfl) (by kernel_rfl) rfl trivial ⟨rfl, rfl, trivial⟩ ?_ ?_ ?_
  · repeat' first
      | exact OpStepsG.nil
      | refine OpStepsG.run ?_ ?_
      | exact stb_box (fun _ _ h => h) (cell_on BX.out.1 (by omega)) (cell_on BX.out.2.1 (by omega)) (fun _ => rfl)
      | exact stb_box (fun _ _ h => h) (cell_on BY.out.1 (by omega)) (cell_on BY.out.2.1 (by omega)) (fun _ => rfl)
      | exact sn_refO (fun _ _ h => h) S1.out (by omega) (fun _ _ h => h)
      | exact sn_refO (fun _ _ h => h) S2.out (by omega) (fun _ _ h => h)
      | exact st3_alloc (fun _ _ h => h)
  · repeat' first
      | exact AllocsOk.nil
      | refine AllocsOk.cons ?_ ?_
      | exact fun T h ρ w => run_alloc3 ρ w
      | exact fun T h => nomatch h
  intro v w3 ho ha hb
  obtain ⟨r1, e5, h51, h52, h53⟩ := ho.slot (d := 5) (by simp [dstD])
  obtain ⟨r2, e6, h61, h62, h63⟩ := ho.slot (d := 6) (by simp [dstD])
  obtain ⟨A5, n5, c5, e29, o5⟩ := ho.slot (d := 29) (by simp [dstD])
  obtain ⟨A6, n6, c6, e31, o6⟩ := ho.slot (d := 31) (by simp [dstD])
  have hne : r1 ≠ r2 := fun h => ha 4 5 _ _ _ _ (by decide) rfl rfl rfl rfl rfl rfl (by show v 5 = v 6; rw [e5, e6, h])
  clear ho ha
  obtain ⟨d1, d2, d3, d4⟩ := two_boxes (k := w9.heap.size) (.bool s) (.slice A5 n5 c5) (.bool t) (.slice A6 n6 c6) h53 h63 hne h51 h61
  have hne' := hne.symm
  obtain ⟨p0, p1, p2, p3⟩ := boxed_of h53
  obtain ⟨q0, q1, q2, q3⟩ := boxed_of h63
  have D1 := Lib.hid d1
  have D2 := Lib.hid d2
  have D3 := Lib.hid (hb.trans (d3.mono (Nat.le_refl _)))
  have O5 := Lib.hid (o5.stores (u := .bool s) (v := .slice A5 n5 c5) (x := .bool t) (y := .slice A6 n6 c6) (o5.not_box h53) (o5.not_box h63))
  have O6 := Lib.hid (o6.stores (u := .bool s) (v := .slice A5 n5 c5) (x := .bool t) (y := .slice A6 n6 c6) (o6.not_box h53) (o6.not_box h63))
  clear d1 d2 d3 h53 h63 hb o5 o6
  simp only [List.take, List.drop, List.map_cons, List.map_nil, dstD, Option.getD_some, putAll, Act.put, List.setIfInBounds_toArray, List.set_cons_succ, List.set_cons_zero, e5, e6, e29, e31]
  go_upto_region 4 with fail
  generalize (((w3.setCell ⟨r1, 0, none⟩ (.bool s)).setCell ⟨r1, 1, none⟩ (.slice A5 n5 c5)).setCell ⟨r2, 0, none⟩ (.bool t)).setCell ⟨r2, 1, none⟩ (.slice A6 n6 c6) = W3 at D1 D2 D3 d4 O5 O6 ⊢
  clear p0 p1 p2 p3 q0 q1 q2 q3 e5 e6 e29 e31
  have hr1 : r1 < W3.heap.size := by omega
  have hr2 : r2 < W3.heap.size := by omega
  have hz3 := D3.out.size
  replace S1 := Lib.hid ((S1.out.below D3.out (Nat.le_refl _)).more hz3)
  replace S2 := Lib.hid ((S2.out.below D3.out (Nat.le_refl _)).more hz3)
  replace BX := Lib.hid (Boxed.below BX.out D3.out (by omega))
  replace BY := Lib.hid (Boxed.below BY.out D3.out (by omega))
  have V2 := Lib.hid (V1.out.trans (D3.out.mono V1.out.size))
  have E2 := Lib.hid (E1.out.below D3.out)
  replace hlt : w.heap.size + 1 < W3.heap.size := by omega
  have hn5 : n5 ≤ 30 := by have := O5.out.len; have := S1.out.len; omega
  have hn6 : n6 ≤ 30 := by have := O6.out.len; have := S2.out.len; omega
  clear D3 V1 E1 d4 h51 h61 h52 h62
  obtain ⟨s7, qs, s8, rs, er, dv3, dvb⟩ := div_out (ival s xs) (ival t ys)
  have DV3 := Lib.hid dv3
  have DVB := Lib.hid dvb
  clear dv3 dvb
  obtain ⟨p0, p1, p2, p3⟩ := D1.out
  obtain ⟨q0, q1, q2, q3⟩ := D2.out
  go_wp2_with fail
  refine (div3_any O5.out.sl O6.out.sl (Nat.le_refl _) DX.out DY.out (by omega) (by omega)).mono ?_
  intro e w4 h
  obtain ⟨A7, n7, c7, A8, n8, c8, rfl, o7, o8, hb⟩ := DV3.out _ _ _ h
  clear h p0 p1 p2 p3 q0 q1 q2 q3
  go_upto_region 5 with fail
  obtain ⟨d7, d8, hlt4, _⟩ := box_new2 (w := w4) (v0 := .bool s7) (v1 := .slice A7 n7 c7) (u0 := .bool s8) (u1 := .slice A8 n8 c8) (t := 26) (t2 := 26) (Below.refl _ _)
  have hb4 : Below w4.heap.size w4 ((w4.alloc (.cells #[.bool s7, .slice A7 n7 c7] 26)).alloc (.cells #[.bool s8, .slice A8 n8 c8] 26)) := ((Below.refl _ _).alloc (Nat.le_refl _) _).alloc (by rw [size_one]; omega) _
  have hbb := hb.trans (hb4.mono hb.size)
  have O7 := Lib.hid ((o7.below hb4).lower (Nat.zero_le _))
  have O8 := Lib.hid ((o8.below hb4).lower (Nat.zero_le _))
  replace O5 := Lib.hid ((O5.out.below hbb).lower (Nat.zero_le _))
  replace O6 := Lib.hid ((O6.out.below hbb).lower (Nat.zero_le _))
  replace S1 := Lib.hid ((S1.out.below hbb (Nat.le_refl _)).more hbb.size)
  replace S2 := Lib.hid ((S2.out.below hbb (Nat.le_refl _)).more hbb.size)
  replace BX := Lib.hid (Boxed.below BX.out hbb (by omega))
  replace BY := Lib.hid (Boxed.below BY.out hbb (by omega))
  replace D1 := Lib.hid (Boxed.below D1.out hbb (by omega))
  replace D2 := Lib.hid (Boxed.below D2.out hbb (by omega))
  have D7 := Lib.hid d7
  have D8 := Lib.hid d8
  have V3 := Lib.hid (V2.out.trans (hbb.mono V2.out.size))
  have E3 := Lib.hid (E2.out.below hbb)
  have hz4 := hbb.size
  clear hb hb4 hbb o7 o8 d7 d8 V2 E2
  generalize hr3 : w4.heap.size = r3 at *
  generalize (w4.alloc (.cells #[.bool s7, .slice A7 n7 c7] 26)).alloc (.cells #[.bool s8, .slice A8 n8 c8] 26) = W4 at *
  clear hr3 DV3
  go_wp2_with fail
  go_loopw [10] (fun tv wr => ∃ k : Nat, tv = .int .i64 k ∧ k ≤ 2 ∧ Below W4.heap.size W4 wr) (fun tv _ => 2 - (intOf tv).toNat)
  case atStart => exact ⟨0, rfl, by omega, Below.refl _ _⟩
  case round =>
    obtain ⟨k, rfl, hk, hb⟩ := hrel
    by_cases hk2 : k < 2
    · have hki : (k : Int) < 2 := by omega
      have hbs := hb.size
      have hbs0 := hb.size
      have T1 := Lib.hid ((S1.out.below hb (Nat.le_refl _)).more hbs)
      have T2 := Lib.hid ((S2.out.below hb (Nat.le_refl _)).more hbs)
      have CX := Lib.hid (Boxed.below BX.out hb (by omega))
      have CY := Lib.hid (Boxed.below BY.out hb (by omega))
      have HB := Lib.hid hb
      have E4 := Lib.hid (E3.out.below hb)
      clear hb
      go_upto_region 8 with fail
      refine wp_region_new [(2, STy.is (.pointer (some ⟨w.heap.size, 0, none⟩))),
          (3, STy.is (.pointer (some ⟨w.heap.size + 1, 0, none⟩))),
          (43, STy.is (.agg #[.bool s, .slice A1 n1 c1])),
          (44, STy.is (.agg #[.bool t, .slice A2 n2 c2])),
          (46, STy.is (.agg #[.bool s, .slice A1 n1 c1])),
          (47, STy.is (.agg #[.bool t, .slice A2 n2 c2])),
          (49, STy.is (.agg #[.bool s, .slice A1 n1 c1])),
          (50, STy.is (.agg #[.bool t, .slice A2 n2 c2])),
          (52, STy.is (.agg #[.bool s, .slice A1 n1 c1])),
          (54, STy.is (.agg #[.bool s, .slice A1 n1 c1])),
          (56, STy.is (.agg #[.bool s, .slice A1 n1 c1])),
          (57, STy.is (.agg #[.bool t, .slice A2 n2 c2])),
          (45, STy.newI wr.heap.size (ival s xs + ival t ys)),
          (48, STy.newI wr.heap.size (ival s xs - ival t ys)),
          (51, STy.newI wr.heap.size (ival s xs * ival t ys)),
          (53, STy.newI wr.heap.size (-ival s xs)),
          (55, STy.newI wr.heap.size (((ival s xs).natAbs : Int))),
          (58, STy.newI wr.heap.size (gcdI ((ival s xs).natAbs : Int) ((ival t ys).natAbs : Int)))]
          [2, 3] [] [] [45, 48, 51, 53, 55, 58] 152 16 (by kernel_rfl) (by kernel_rfl) trivial rfl trivial ⟨rfl, rfl, trivial⟩ ?_ ?_ ?_ ?_ ?_
      · repeat' first
          | exact OpStepsG.nil
          | refine OpStepsG.run ?_ ?_
          | exact stb_box (fun _ _ h => h) (cell_on CX.out.1 (by omega)) (cell_on CX.out.2.1 (by omega)) (fun _ => rfl)
          | exact stb_box (fun _ _ h => h) (cell_on CY.out.1 (by omega)) (cell_on CY.out.2.1 (by omega)) (fun _ => rfl)
          | exact OpNew.step (onb_add (fun _ _ h => h) (fun _ _ h => h) T1.out T2.out DX.out DY.out (by omega) (by omega) (fun _ _ h => h))
          | exact OpNew.step (onb_sub (fun _ _ h => h) (fun _ _ h => h) T1.out T2.out DX.out DY.out (by omega) (by omega) (fun _ _ h => h))
          | exact OpNew.step (onb_mul (fun _ _ h => h) (fun _ _ h => h) T1.out T2.out DX.out DY.out (by omega) (by omega) (fun _ _ h => h))
          | exact OpNew.step (onb_gcd (fun _ _ h => h) (fun _ _ h => h) T1.out T2.out DX.out DY.out E4.out (by omega) (by omega) (fun _ _ h => h))
          | exact OpNew.step (onb_neg (fun _ _ h => h) T1.out DX.out (by omega) (fun _ _ h => h))
          | exact OpNew.step (onb_abs (fun _ _ h => h) T1.out DX.out (by omega) (fun _ _ h => h))
      · repeat' first
          | exact AllocsOk.nil
          | refine AllocsOk.cons ?_ ?_
          | exact fun T h => nomatch h
      · refine NewLts.of ?_
        repeat' first
          | exact NewLts.nil
          | refine NewLts.skip (by rfl) ?_
          | refine NewLts.run newI_lt ?_
      · refine NewOks.of ?_
        repeat' first
          | exact NewOks.nil
          | refine NewOks.skip (by rfl) ?_
          | refine NewOks.run ?_ ?_
          | exact onb_add (fun _ _ h => h) (fun _ _ h => h) T1.out T2.out DX.out DY.out (by omega) (by omega) (fun _ _ h => h)
          | exact onb_sub (fun _ _ h => h) (fun _ _ h => h) T1.out T2.out DX.out DY.out (by omega) (by omega) (fun _ _ h => h)
          | exact onb_mul (fun _ _ h => h) (fun _ _ h => h) T1.out T2.out DX.out DY.out (by omega) (by omega) (fun _ _ h => h)
          | exact onb_gcd (fun _ _ h => h) (fun _ _ h => h) T1.out T2.out DX.out DY.out E4.out (by omega) (by omega) (fun _ _ h => h)
          | exact onb_neg (fun _ _ h => h) T1.out DX.out (by omega) (fun _ _ h => h)
          | exact onb_abs (fun _ _ h => h) T1.out DX.out (by omega) (fun _ _ h => h)
      intro v w8 ho _ ha hb8
      obtain ⟨t1, ys1, B1, m1, k1, f1, hW1, o1⟩ := ho.slot (d := 45) (by simp [dstD])
      obtain ⟨t2, ys2, B2, m2, k2, f2, hW2, o2⟩ := ho.slot (d := 48) (by simp [dstD])
      obtain ⟨t3, ys3, B3, m3, k3, f3, hW3, o3⟩ := ho.slot (d := 51) (by simp [dstD])
      obtain ⟨t4, ys4, B4, m4, k4, f4, hW4, o4⟩ := ho.slot (d := 53) (by simp [dstD])
      obtain ⟨t5, ys5, B5, m5, k5, f5, hW5, o5⟩ := ho.slot (d := 55) (by simp [dstD])
      obtain ⟨t6, ys6, B6, m6, k6, f6, hW6, o6⟩ := ho.slot (d := 58) (by simp [dstD])
      have z12 : Sep B1 B2 := by have h := ha 2 5 _ _ (by decide) rfl rfl (by decide) (by decide); change bkV (v 45) = none ∨ bkV (v 45) ≠ bkV (v 48) at h; rw [f1, f2] at h; exact h
      have z13 : Sep B1 B3 := by have h := ha 2 8 _ _ (by decide) rfl rfl (by decide) (by decide); change bkV (v 45) = none ∨ bkV (v 45) ≠ bkV (v 51) at h; rw [f1, f3] at h; exact h
      have z14 : Sep B1 B4 := by have h := ha 2 10 _ _ (by decide) rfl rfl (by decide) (by decide); change bkV (v 45) = none ∨ bkV (v 45) ≠ bkV (v 53) at h; rw [f1, f4] at h; exact h
      have z15 : Sep B1 B5 := by have h := ha 2 12 _ _ (by decide) rfl rfl (by decide) (by decide); change bkV (v 45) = none ∨ bkV (v 45) ≠ bkV (v 55) at h; rw [f1, f5] at h; exact h
      have z16 : Sep B1 B6 := by have h := ha 2 15 _ _ (by decide) rfl rfl (by decide) (by decide); change bkV (v 45) = none ∨ bkV (v 45) ≠ bkV (v 58) at h; rw [f1, f6] at h; exact h
      have z23 : Sep B2 B3 := by have h := ha 5 8 _ _ (by decide) rfl rfl (by decide) (by decide); change bkV (v 48) = none ∨ bkV (v 48) ≠ bkV (v 51) at h; rw [f2, f3] at h; exact h
      have z24 : Sep B2 B4 := by have h := ha 5 10 _ _ (by decide) rfl rfl (by decide) (by decide); change bkV (v 48) = none ∨ bkV (v 48) ≠ bkV (v 53) at h; rw [f2, f4] at h; exact h
      have z25 : Sep B2 B5 := by have h := ha 5 12 _ _ (by decide) rfl rfl (by decide) (by decide); change bkV (v 48) = none ∨ bkV (v 48) ≠ bkV (v 55) at h; rw [f2, f5] at h; exact h
      have z26 : Sep B2 B6 := by have h := ha 5 15 _ _ (by decide) rfl rfl (by decide) (by decide); change bkV (v 48) = none ∨ bkV (v 48) ≠ bkV (v 58) at h; rw [f2, f6] at h; exact h
      have z34 : Sep B3 B4 := by have h := ha 8 10 _ _ (by decide) rfl rfl (by decide) (by decide); change bkV (v 51) = none ∨ bkV (v 51) ≠ bkV (v 53) at h; rw [f3, f4] at h; exact h
      have z35 : Sep B3 B5 := by have h := ha 8 12 _ _ (by decide) rfl rfl (by decide) (by decide); change bkV (v 51) = none ∨ bkV (v 51) ≠ bkV (v 55) at h; rw [f3, f5] at h; exact h
      have z36 : Sep B3 B6 := by have h := ha 8 15 _ _ (by decide) rfl rfl (by decide) (by decide); change bkV (v 51) = none ∨ bkV (v 51) ≠ bkV (v 58) at h; rw [f3, f6] at h; exact h
      have z45 : Sep B4 B5 := by have h := ha 10 12 _ _ (by decide) rfl rfl (by decide) (by decide); change bkV (v 53) = none ∨ bkV (v 53) ≠ bkV (v 55) at h; rw [f4, f5] at h; exact h
      have z46 : Sep B4 B6 := by have h := ha 10 15 _ _ (by decide) rfl rfl (by decide) (by decide); change bkV (v 53) = none ∨ bkV (v 53) ≠ bkV (v 58) at h; rw [f4, f6] at h; exact h
      have z56 : Sep B5 B6 := by have h := ha 12 15 _ _ (by decide) rfl rfl (by decide) (by decide); change bkV (v 55) = none ∨ bkV (v 55) ≠ bkV (v 58) at h; rw [f5, f6] at h; exact h
      clear ho ha
      simp only [List.append_eq, List.cons_append, List.nil_append, List.take, List.drop, List.map_cons, List.map_nil, dstD, Option.getD_some, putAll, Act.put, List.setIfInBounds_toArray, List.set_cons_succ, List.set_cons_zero, f1, f2, f3, f4, f5, f6]
      go_upto_region 9 with fail
      have hrow : rowsO w8 wr.heap.size [(t1, ys1, B1, m1, k1), (t2, ys2, B2, m2, k2), (t3, ys3, B3, m3, k3), (t4, ys4, B4, m4, k4), (t5, ys5, B5, m5, k5), (t6, ys6, B6, m6, k6)] := by
        intro p hp
        simp only [List.mem_cons, List.not_mem_nil, or_false] at hp; rcases hp with rfl | rfl | rfl | rfl | rfl | rfl
        · exact o1
        · exact o2
        · exact o3
        · exact o4
        · exact o5
        · exact o6
      have hwi : within wr.heap.size w8.heap.size [(t1, ys1, B1, m1, k1), (t2, ys2, B2, m2, k2), (t3, ys3, B3, m3, k3), (t4, ys4, B4, m4, k4), (t5, ys5, B5, m5, k5), (t6, ys6, B6, m6, k6)] := by
        intro p hp
        simp only [List.mem_cons, List.not_mem_nil, or_false] at hp; rcases hp with rfl | rfl | rfl | rfl | rfl | rfl
        · exact o1.blk_
        · exact o2.blk_
        · exact o3.blk_
        · exact o4.blk_
        · exact o5.blk_
        · exact o6.blk_
      have hpw : ([(t1, ys1, B1, m1, k1), (t2, ys2, B2, m2, k2), (t3, ys3, B3, m3, k3), (t4, ys4, B4, m4, k4), (t5, ys5, B5, m5, k5), (t6, ys6, B6, m6, k6)] : List LRow).Pairwise fun p q => Sep p.2.2.1 q.2.2.1 := by
        refine .cons ?_ (.cons ?_ (.cons ?_ (.cons ?_ (.cons ?_ (.cons ?_ .nil)))))
        all_goals intro p hp
        · simp only [List.mem_cons, List.not_mem_nil, or_false] at hp; rcases hp with rfl | rfl | rfl | rfl | rfl
          · exact z12
          · exact z13
          · exact z14
          · exact z15
          · exact z16
        · simp only [List.mem_cons, List.not_mem_nil, or_false] at hp; rcases hp with rfl | rfl | rfl | rfl
          · exact z23
          · exact z24
          · exact z25
          · exact z26
        · simp only [List.mem_cons, List.not_mem_nil, or_false] at hp; rcases hp with rfl | rfl | rfl
          · exact z34
          · exact z35
          · exact z36
        · simp only [List.mem_cons, List.not_mem_nil, or_false] at hp; rcases hp with rfl | rfl
          · exact z45
          · exact z46
        · simp only [List.mem_cons, List.not_mem_nil, or_false] at hp; rcases hp with rfl
          · exact z56
        · cases hp
      clear z12 z13 z14 z15 z16 z23 z24 z25 z26 z34 z35 z36 z45 z46 z56 o1 o2 o3 o4 o5 o6
      have hla := OwnV.lit 2 24 w8 (B := W4.heap.size) (Nat.le_trans hbs hb8.size) (cellsO [(t1, ys1, B1, m1, k1), (t2, ys2, B2, m2, k2), (t3, ys3, B3, m3, k3), (t4, ys4, B4, m4, k4), (t5, ys5, B5, m5, k5), (t6, ys6, B6, m6, k6)]) 6 rfl (by omega)
      have hbn := below_new w8 (.cells #[.bool t1, .slice B1 m1 k1, .bool t2, .slice B2 m2 k2, .bool t3, .slice B3 m3 k3, .bool t4, .slice B4 m4 k4, .bool t5, .slice B5 m5 k5, .bool t6, .slice B6 m6 k6] 24)
      have hbb := hb8.trans (hbn.mono hb8.size)
      have hz8 : (w8.alloc (.cells #[.bool t1, .slice B1 m1 k1, .bool t2, .slice B2 m2 k2, .bool t3, .slice B3 m3 k3, .bool t4, .slice B4 m4 k4, .bool t5, .slice B5 m5 k5, .bool t6, .slice B6 m6 k6] 24)).heap.size = w8.heap.size + 1 := size_one _ _
      replace hrow := (hrow.below hbn).lower hbs
      replace hla : OwnV 2 24 (w8.alloc (.cells #[.bool t1, .slice B1 m1 k1, .bool t2, .slice B2 m2 k2, .bool t3, .slice B3 m3 k3, .bool t4, .slice B4 m4 k4, .bool t5, .slice B5 m5 k5, .bool t6, .slice B6 m6 k6] 24)) W4.heap.size (some ⟨w8.heap.size, 0, none⟩) 6 6 (cellsO [(t1, ys1, B1, m1, k1), (t2, ys2, B2, m2, k2), (t3, ys3, B3, m3, k3), (t4, ys4, B4, m4, k4), (t5, ys5, B5, m5, k5), (t6, ys6, B6, m6, k6)]) := hla
      have RL := Lib.hid hrow
      have AL := Lib.hid hla
      have WI := Lib.hid hwi
      have PWL := Lib.hid hpw
      replace T1 := Lib.hid ((T1.out.below hbb (Nat.le_refl _)).more hbb.size)
      replace T2 := Lib.hid ((T2.out.below hbb (Nat.le_refl _)).more hbb.size)
      replace CX := Lib.hid (Boxed.below CX.out hbb (by omega))
      replace CY := Lib.hid (Boxed.below CY.out hbb (by omega))
      replace HB := Lib.hid (HB.out.trans (hbb.mono hbs))
      replace E4 := Lib.hid (E4.out.below hbb)
      replace hbs := HB.out.size
      have hz8w := hb8.size
      have hz4r := HB.out.size
      clear hrow hla hwi hpw hbn hbb hb8 f1 f2 f3 f4 f5 f6
      generalize hr8 : w8.heap.size = r8 at *
      generalize w8.alloc (.cells #[.bool t1, .slice B1 m1 k1, .bool t2, .slice B2 m2 k2, .bool t3, .slice B3 m3 k3, .bool t4, .slice B4 m4 k4, .bool t5, .slice B5 m5 k5, .bool t6, .slice B6 m6 k6] 24) = W8 at *
      clear hr8
      have CA := Lib.hid (Boxed.below D1.out HB.out (by omega))
      have CB := Lib.hid (Boxed.below D2.out HB.out (by omega))
      have P5 := Lib.hid ((O5.out.below HB.out).sl)
      have P6 := Lib.hid ((O6.out.below HB.out).sl)
      refine wp_region_chain [(5, STy.is (.pointer (some ⟨r1, 0, none⟩))),
          (6, STy.is (.pointer (some ⟨r2, 0, none⟩))),
          (60, STy.is (.agg #[.bool s, .slice A5 n5 c5])),
          (61, STy.is (.agg #[.bool t, .slice A6 n6 c6])),
          (63, STy.is (.agg #[.bool s, .slice A5 n5 c5])),
          (64, STy.is (.agg #[.bool t, .slice A6 n6 c6])),
          (66, STy.is (.agg #[.bool s, .slice A5 n5 c5])),
          (67, STy.is (.agg #[.bool t, .slice A6 n6 c6])),
          (69, STy.is (.agg #[.bool s, .slice A5 n5 c5])),
          (71, STy.is (.agg #[.bool s, .slice A5 n5 c5])),
          (73, STy.is (.agg #[.bool s, .slice A5 n5 c5])),
          (74, STy.is (.agg #[.bool t, .slice A6 n6 c6])),
          (62, STy.newI W8.heap.size (ival s xs + ival t ys)),
          (65, STy.newI W8.heap.size (ival s xs - ival t ys)),
          (68, STy.newI W8.heap.size (ival s xs * ival t ys)),
          (70, STy.newI W8.heap.size (-ival s xs)),
          (72, STy.newI W8.heap.size (((ival s xs).natAbs : Int))),
          (75, STy.newI W8.heap.size (gcdI ((ival s xs).natAbs : Int) ((ival t ys).natAbs : Int)))]
          [5, 6] [] 152 16 (by kernel_rfl) (by kernel_rfl) rfl trivial ⟨rfl, rfl, trivial⟩ ?_ ?_ ?_
      · repeat' first
          | exact OpStepsG.nil
          | refine OpStepsG.run ?_ ?_
          | exact st3_box (fun _ _ h => h) (cell_on CA.out.1 (by omega)) (cell_on CA.out.2.1 (by omega)) (fun _ => rfl)
          | exact st3_box (fun _ _ h => h) (cell_on CB.out.1 (by omega)) (cell_on CB.out.2.1 (by omega)) (fun _ => rfl)
          | exact OpNew.step (on3_add (fun _ _ h => h) (fun _ _ h => h) P5.out P6.out DX.out DY.out (by omega) (by omega) (fun _ _ h => h))
          | exact OpNew.step (on3_sub (fun _ _ h => h) (fun _ _ h => h) P5.out P6.out DX.out DY.out (by omega) (by omega) (fun _ _ h => h))
          | exact OpNew.step (on3_mul (fun _ _ h => h) (fun _ _ h => h) P5.out P6.out DX.out DY.out (by omega) (by omega) (fun _ _ h => h))
          | exact OpNew.step (on3_gcd (fun _ _ h => h) (fun _ _ h => h) P5.out P6.out DX.out DY.out (by omega) (by omega) (fun _ _ h => h))
          | exact OpNew.step (on3_neg (fun _ _ h => h) P5.out DX.out (by omega) (fun _ _ h => h))
          | exact OpNew.step (on3_abs (fun _ _ h => h) P5.out DX.out (by omega) (fun _ _ h => h))
      · repeat' first
          | exact AllocsOk.nil
          | refine AllocsOk.cons ?_ ?_
          | exact fun T h => nomatch h
      intro v w10 ho _ hb10
      obtain ⟨u1, zs1, C1, pn1, pc1, f1, hX1, o1⟩ := ho.slot (d := 62) (by simp [dstD])
      obtain ⟨rfl, rfl⟩ := hW1.uniq hX1
      obtain ⟨u2, zs2, C2, pn2, pc2, f2, hX2, o2⟩ := ho.slot (d := 65) (by simp [dstD])
      obtain ⟨rfl, rfl⟩ := hW2.uniq hX2
      obtain ⟨u3, zs3, C3, pn3, pc3, f3, hX3, o3⟩ := ho.slot (d := 68) (by simp [dstD])
      obtain ⟨rfl, rfl⟩ := hW3.uniq hX3
      obtain ⟨u4, zs4, C4, pn4, pc4, f4, hX4, o4⟩ := ho.slot (d := 70) (by simp [dstD])
      obtain ⟨rfl, rfl⟩ := hW4.uniq hX4
      obtain ⟨u5, zs5, C5, pn5, pc5, f5, hX5, o5⟩ := ho.slot (d := 72) (by simp [dstD])
      obtain ⟨rfl, rfl⟩ := hW5.uniq hX5
      obtain ⟨u6, zs6, C6, pn6, pc6, f6, hX6, o6⟩ := ho.slot (d := 75) (by simp [dstD])
      obtain ⟨rfl, rfl⟩ := hW6.uniq hX6
      clear ho hX1 hX2 hX3 hX4 hX5 hX6 hW1 hW2 hW3 hW4 hW5 hW6
      simp only [List.append_eq, List.cons_append, List.nil_append, List.take, List.drop, List.map_cons, List.map_nil, dstD, Option.getD_some, putAll, Act.put, List.setIfInBounds_toArray, List.set_cons_succ, List.set_cons_zero, f1, f2, f3, f4, f5, f6]
      go_upto_region 10 with fail
      have hrow : rowsO w10 W8.heap.size [(t1, ys1, C1, pn1, pc1), (t2, ys2, C2, pn2, pc2), (t3, ys3, C3, pn3, pc3), (t4, ys4, C4, pn4, pc4), (t5, ys5, C5, pn5, pc5), (t6, ys6, C6, pn6, pc6)] := by
        intro p hp
        simp only [List.mem_cons, List.not_mem_nil, or_false] at hp; rcases hp with rfl | rfl | rfl | rfl | rfl | rfl
        · exact o1
        · exact o2
        · exact o3
        · exact o4
        · exact o5
        · exact o6
      have hwi : within W8.heap.size w10.heap.size [(t1, ys1, C1, pn1, pc1), (t2, ys2, C2, pn2, pc2), (t3, ys3, C3, pn3, pc3), (t4, ys4, C4, pn4, pc4), (t5, ys5, C5, pn5, pc5), (t6, ys6, C6, pn6, pc6)] := by
        intro p hp
        simp only [List.mem_cons, List.not_mem_nil, or_false] at hp; rcases hp with rfl | rfl | rfl | rfl | rfl | rfl
        · exact o1.blk_
        · exact o2.blk_
        · exact o3.blk_
        · exact o4.blk_
        · exact o5.blk_
        · exact o6.blk_
      clear o1 o2 o3 o4 o5 o6 f1 f2 f3 f4 f5 f6
      have hla := OwnV.lit 2 26 w10 (B := W4.heap.size) (Nat.le_trans hbs hb10.size) (cellsO [(t1, ys1, C1, pn1, pc1), (t2, ys2, C2, pn2, pc2), (t3, ys3, C3, pn3, pc3), (t4, ys4, C4, pn4, pc4), (t5, ys5, C5, pn5, pc5), (t6, ys6, C6, pn6, pc6)]) 6 rfl (by omega)
      have hbn := below_new w10 (.cells #[.bool t1, .slice C1 pn1 pc1, .bool t2, .slice C2 pn2 pc2, .bool t3, .slice C3 pn3 pc3, .bool t4, .slice C4 pn4 pc4, .bool t5, .slice C5 pn5 pc5, .bool t6, .slice C6 pn6 pc6] 26)
      have hbb := hb10.trans (hbn.mono hb10.size)
      have hz10 : (w10.alloc (.cells #[.bool t1, .slice C1 pn1 pc1, .bool t2, .slice C2 pn2 pc2, .bool t3, .slice C3 pn3 pc3, .bool t4, .slice C4 pn4 pc4, .bool t5, .slice C5 pn5 pc5, .bool t6, .slice C6 pn6 pc6] 26)).heap.size = w10.heap.size + 1 := size_one _ _
      replace hla : OwnV 2 26 (w10.alloc (.cells #[.bool t1, .slice C1 pn1 pc1, .bool t2, .slice C2 pn2 pc2, .bool t3, .slice C3 pn3 pc3, .bool t4, .slice C4 pn4 pc4, .bool t5, .slice C5 pn5 pc5, .bool t6, .slice C6 pn6 pc6] 26)) W4.heap.size (some ⟨w10.heap.size, 0, none⟩) 6 6 (cellsO [(t1, ys1, C1, pn1, pc1), (t2, ys2, C2, pn2, pc2), (t3, ys3, C3, pn3, pc3), (t4, ys4, C4, pn4, pc4), (t5, ys5, C5, pn5, pc5), (t6, ys6, C6, pn6, pc6)]) := hla
      have RK := Lib.hid ((hrow.below hbn).lower (Nat.zero_le _))
      have AK := Lib.hid hla
      have WK := Lib.hid hwi
      replace RL := Lib.hid (RL.out.below hbb)
      replace AL := Lib.hid (AL.out.below hbb)
      replace T1 := Lib.hid ((T1.out.below hbb (Nat.le_refl _)).more hbb.size)
      replace T2 := Lib.hid ((T2.out.below hbb (Nat.le_refl _)).more hbb.size)
      replace CX := Lib.hid (Boxed.below CX.out hbb (by omega))
      replace CY := Lib.hid (Boxed.below CY.out hbb (by omega))
      replace HB := Lib.hid (HB.out.trans (hbb.mono hbs))
      replace E4 := Lib.hid (E4.out.below hbb)
      replace hbs := HB.out.size
      have hz10w := hb10.size
      clear hrow hla hwi hbn hbb hb10 CA CB P5 P6
      generalize hr10 : w10.heap.size = r10 at *
      generalize w10.alloc (.cells #[.bool t1, .slice C1 pn1 pc1, .bool t2, .slice C2 pn2 pc2, .bool t3, .slice C3 pn3 pc3, .bool t4, .slice C4 pn4 pc4, .bool t5, .slice C5 pn5 pc5, .bool t6, .slice C6 pn6 pc6] 26) = W10 at *
      clear hr10
      obtain ⟨p0, p1, p2, p3⟩ := CX.out
      obtain ⟨q0, q1, q2, q3⟩ := CY.out
      go_wp2_with fail
      refine (bdivmod_any T1.out T2.out (Nat.le_refl _) E4.out.half E4.out.hz DX.out DY.out (by omega) (by omega)).mono ?_
      intro e w11 h
      obtain ⟨⟨B7, m7, k7, B8, m8, k8, rfl, o7, o8, hb⟩, hsep⟩ := DVB.out _ _ _ h
      have z78 := Lib.hid (hsep _ _ _ _ _ _ rfl)
      clear h hsep p0 p1 p2 p3 q0 q1 q2 q3
      go_upto_region 11 with fail
      obtain ⟨d9, d10, hlt11, _⟩ := box_new2 (w := w11) (v0 := .bool s7) (v1 := .slice B7 m7 k7) (u0 := .bool s8) (u1 := .slice B8 m8 k8) (t := 24) (t2 := 24) (Below.refl _ _)
      have hb11 : Below w11.heap.size w11 ((w11.alloc (.cells #[.bool s7, .slice B7 m7 k7] 24)).alloc (.cells #[.bool s8, .slice B8 m8 k8] 24)) := ((Below.refl _ _).alloc (Nat.le_refl _) _).alloc (by rw [size_one]; omega) _
      have hz11 : ((w11.alloc (.cells #[.bool s7, .slice B7 m7 k7] 24)).alloc (.cells #[.bool s8, .slice B8 m8 k8] 24)).heap.size = w11.heap.size + 2 := size_two _ _ _
      have hbb := hb.trans (hb11.mono hb.size)
      have hrow : rowsO ((w11.alloc (.cells #[.bool s7, .slice B7 m7 k7] 24)).alloc (.cells #[.bool s8, .slice B8 m8 k8] 24)) W4.heap.size [(s7, qs, B7, m7, k7), (s8, rs, B8, m8, k8)] := by
        intro p hp
        simp only [List.mem_cons, List.not_mem_nil, or_false] at hp; rcases hp with rfl | rfl
        · exact (o7.below hb11).lower hbs
        · exact (o8.below hb11).lower hbs
      have hwi : within W10.heap.size w11.heap.size [(s7, qs, B7, m7, k7), (s8, rs, B8, m8, k8)] := by
        intro p hp
        simp only [List.mem_cons, List.not_mem_nil, or_false] at hp; rcases hp with rfl | rfl
        · exact o7.blk_
        · exact o8.blk_
      have D9 := Lib.hid d9
      have D10 := Lib.hid d10
      have R2 := Lib.hid hrow
      have WI2 := Lib.hid hwi
      replace RL := Lib.hid (RL.out.below hbb)
      replace AL := Lib.hid (AL.out.below hbb)
      replace RK := Lib.hid (RK.out.below hbb)
      replace AK := Lib.hid (AK.out.below hbb)
      replace HB := Lib.hid (HB.out.trans (hbb.mono hbs))
      have hz11w := hb.size
      replace hbs := HB.out.size
      clear hb hb11 hbb hrow hwi o7 o8 d9 d10 T1 T2 CX CY E4
      generalize hr11 : w11.heap.size = r11 at *
      generalize (w11.alloc (.cells #[.bool s7, .slice B7 m7 k7] 24)).alloc (.cells #[.bool s8, .slice B8 m8 k8] 24) = W11 at *
      clear hr11
      have hbA := below_new W11 (.cells #[.bool s7, .slice B7 m7 k7, .bool s8, .slice B8 m8 k8] 24)
      have hzA : (W11.alloc (.cells #[.bool s7, .slice B7 m7 k7, .bool s8, .slice B8 m8 k8] 24)).heap.size = W11.heap.size + 1 := size_one _ _
      have AL2 := Lib.hid (AL.out.below hbA)
      have HA := Lib.hid hbA
      obtain ⟨p0, p1, p2, p3⟩ := D9.out
      obtain ⟨q0, q1, q2, q3⟩ := D10.out
      clear hbA
      go_upto_region 12 with (at_builtin; (refine wpList_appV elemVB rfl _ _ rfl AL2.out rfl (SlV.lit 2 W11 (r11 + 2) hz11 [.bool s7, .slice B7 m7 k7, .bool s8, .slice B8 m8 k8] 2 rfl (by omega) 24) rfl (by intro u hu; simp only [List.mem_cons, List.not_mem_nil, or_false] at hu; rcases hu with rfl | rfl | rfl | rfl <;> rfl) (by omega) (by unfold maxLen; omega) (by rw [size_one]; omega) ?_); intro LA lc w12 h12 hg12 hf12)
      have hneR : ∀ p ∈ [(t1, ys1, B1, m1, k1), (t2, ys2, B2, m2, k2), (t3, ys3, B3, m3, k3), (t4, ys4, B4, m4, k4), (t5, ys5, B5, m5, k5), (t6, ys6, B6, m6, k6)], ∀ g, blk p.2.2.1 = some g → (blk (some ⟨r8, 0, none⟩) : Option Nat) ≠ some g := fun p hp g e h => by
        have := (WI.out p hp g e).2
        have h' : r8 = g := by simpa [blk] using h
        omega
      have hneK : ∀ p ∈ ([(t1, ys1, C1, pn1, pc1), (t2, ys2, C2, pn2, pc2), (t3, ys3, C3, pn3, pc3), (t4, ys4, C4, pn4, pc4), (t5, ys5, C5, pn5, pc5), (t6, ys6, C6, pn6, pc6)] : List LRow), ∀ g, blk p.2.2.1 = some g → (blk (some ⟨r8, 0, none⟩) : Option Nat) ≠ some g := fun p hp g e h => by
        have := (WK.out p hp g e).1
        have h' : r8 = g := by simpa [blk] using h
        omega
      have hne2 : ∀ p ∈ ([(s7, qs, B7, m7, k7), (s8, rs, B8, m8, k8)] : List LRow), ∀ g, blk p.2.2.1 = some g → (blk (some ⟨r8, 0, none⟩) : Option Nat) ≠ some g := fun p hp g e h => by
        have := (WI2.out p hp g e).1
        have h' : r8 = g := by simpa [blk] using h
        omega
      replace RL := Lib.hid ((RL.out.below HA.out).keep hg12 hneR)
      replace RK := Lib.hid ((RK.out.below HA.out).keep hg12 hneK)
      replace R2 := Lib.hid ((R2.out.below HA.out).keep hg12 hne2)
      replace AK := Lib.hid ((AK.out.below HA.out).keep hg12 (.inr (by intro h; have h' : r10 = r8 := (by simpa [blk] using h); omega)))
      have hHB := (HB.out.trans (HA.out.mono hbs)).grown hg12 (by omega) (fun g e => by have e' : r8 = g := (by simpa [blk] using e); omega)
      replace HB := Lib.hid hHB
      have A12 := Lib.hid h12
      have LF := Lib.hid (show ∀ g, blk LA = some g → g = r8 ∨ r11 + 3 ≤ g from fun g e => (hf12 g e).imp (fun h => by have h' : r8 = g := (by simpa [blk] using h); exact h'.symm) (fun h => by omega))
      have hz12 : r11 + 3 ≤ w12.heap.size := by have := hg12.size; omega
      replace hbs := HB.out.size
      clear p0 p1 p2 p3 q0 q1 q2 q3 hneR hneK hne2 h12 hg12 hf12 hHB HA AL AL2 D9 D10
      have CQ := Lib.hid (Boxed.below D7.out HB.out (by omega))
      have CR := Lib.hid (Boxed.below D8.out HB.out (by omega))
      have hbA := below_new w12 (.cells #[.bool s7, .slice A7 n7 c7, .bool s8, .slice A8 n8 c8] 26)
      have hzB : (w12.alloc (.cells #[.bool s7, .slice A7 n7 c7, .bool s8, .slice A8 n8 c8] 26)).heap.size = w12.heap.size + 1 := size_one _ _
      have AK2 := Lib.hid (AK.out.below hbA)
      have HA := Lib.hid hbA
      obtain ⟨p0, p1, p2, p3⟩ := CQ.out
      obtain ⟨q0, q1, q2, q3⟩ := CR.out
      clear hbA
      go_upto_region 13 with (at_builtin; (refine wpList_appV elemVR rfl _ _ rfl AK2.out rfl (SlV.lit 2 w12 w12.heap.size rfl [.bool s7, .slice A7 n7 c7, .bool s8, .slice A8 n8 c8] 2 rfl (by omega) 26) rfl (by intro u hu; simp only [List.mem_cons, List.not_mem_nil, or_false] at hu; rcases hu with rfl | rfl | rfl | rfl <;> rfl) (by omega) (by unfold maxLen; omega) (by rw [size_one]; omega) ?_); intro KA kc w13 h13 hg13 hf13)
      have hneR : ∀ p ∈ [(t1, ys1, B1, m1, k1), (t2, ys2, B2, m2, k2), (t3, ys3, B3, m3, k3), (t4, ys4, B4, m4, k4), (t5, ys5, B5, m5, k5), (t6, ys6, B6, m6, k6)], ∀ g, blk p.2.2.1 = some g → (blk (some ⟨r10, 0, none⟩) : Option Nat) ≠ some g := fun p hp g e h => by
        have := (WI.out p hp g e).2
        have h' : r10 = g := by simpa [blk] using h
        omega
      have hneK : ∀ p ∈ ([(t1, ys1, C1, pn1, pc1), (t2, ys2, C2, pn2, pc2), (t3, ys3, C3, pn3, pc3), (t4, ys4, C4, pn4, pc4), (t5, ys5, C5, pn5, pc5), (t6, ys6, C6, pn6, pc6)] : List LRow), ∀ g, blk p.2.2.1 = some g → (blk (some ⟨r10, 0, none⟩) : Option Nat) ≠ some g := fun p hp g e h => by
        have := (WK.out p hp g e).2
        have h' : r10 = g := by simpa [blk] using h
        omega
      have hne2 : ∀ p ∈ ([(s7, qs, B7, m7, k7), (s8, rs, B8, m8, k8)] : List LRow), ∀ g, blk p.2.2.1 = some g → (blk (some ⟨r10, 0, none⟩) : Option Nat) ≠ some g := fun p hp g e h => by
        have := (WI2.out p hp g e).1
        have h' : r10 = g := by simpa [blk] using h
        omega
      have hrow : rowsO W4 0 [(s7, qs, A7, n7, c7), (s8, rs, A8, n8, c8)] := by
        intro p hp
        simp only [List.mem_cons, List.not_mem_nil, or_false] at hp; rcases hp with rfl | rfl
        · exact O7.out
        · exact O8.out
      have hwk2 : within 0 W4.heap.size [(s7, qs, A7, n7, c7), (s8, rs, A8, n8, c8)] := by
        intro p hp
        simp only [List.mem_cons, List.not_mem_nil, or_false] at hp; rcases hp with rfl | rfl
        · exact O7.out.blk_
        · exact O8.out.blk_
      have hneK2 : ∀ p ∈ ([(s7, qs, A7, n7, c7), (s8, rs, A8, n8, c8)] : List LRow), ∀ g, blk p.2.2.1 = some g → (blk (some ⟨r10, 0, none⟩) : Option Nat) ≠ some g := fun p hp g e h => by
        have := (hwk2 p hp g e).2
        have h' : r10 = g := by simpa [blk] using h
        omega
      have hL : rowsO w13 W4.heap.size ([(t1, ys1, B1, m1, k1), (t2, ys2, B2, m2, k2), (t3, ys3, B3, m3, k3), (t4, ys4, B4, m4, k4), (t5, ys5, B5, m5, k5), (t6, ys6, B6, m6, k6)] ++ [(s7, qs, B7, m7, k7), (s8, rs, B8, m8, k8)]) := rowsO.app ((RL.out.below HA.out).keep hg13 hneR) ((R2.out.below HA.out).keep hg13 hne2)
      have hK : rowsO w13 0 ([(t1, ys1, C1, pn1, pc1), (t2, ys2, C2, pn2, pc2), (t3, ys3, C3, pn3, pc3), (t4, ys4, C4, pn4, pc4), (t5, ys5, C5, pn5, pc5), (t6, ys6, C6, pn6, pc6)] ++ [(s7, qs, A7, n7, c7), (s8, rs, A8, n8, c8)]) := rowsO.app ((RK.out.below HA.out).keep hg13 hneK) ((hrow.below (HB.out.trans (HA.out.mono hbs))).keep hg13 hneK2)
      have hAL : OwnV 2 24 w13 W4.heap.size LA 8 lc (cellsO ([(t1, ys1, B1, m1, k1), (t2, ys2, B2, m2, k2), (t3, ys3, B3, m3, k3), (t4, ys4, B4, m4, k4), (t5, ys5, B5, m5, k5), (t6, ys6, B6, m6, k6)] ++ [(s7, qs, B7, m7, k7), (s8, rs, B8, m8, k8)])) := (A12.out.below HA.out).keep hg13 (by
        cases e : blk LA with
        | none => exact .inl rfl
        | some g =>
          refine .inr fun h => ?_
          have h' : g = r10 := by simpa [blk] using h
          rcases LF.out g e with h2 | h2 <;> omega)
      have hAK : OwnV 2 26 w13 W4.heap.size KA 8 kc (cellsO ([(t1, ys1, C1, pn1, pc1), (t2, ys2, C2, pn2, pc2), (t3, ys3, C3, pn3, pc3), (t4, ys4, C4, pn4, pc4), (t5, ys5, C5, pn5, pc5), (t6, ys6, C6, pn6, pc6)] ++ [(s7, qs, A7, n7, c7), (s8, rs, A8, n8, c8)])) := h13
      have hHB := (HB.out.trans (HA.out.mono hbs)).grown hg13 (by omega) (fun g e => by have e' : r10 = g := (by simpa [blk] using e); omega)
      have hIM : InnerM W4 W4.heap.size ([(t1, ys1, B1, m1, k1), (t2, ys2, B2, m2, k2), (t3, ys3, B3, m3, k3), (t4, ys4, B4, m4, k4), (t5, ys5, B5, m5, k5), (t6, ys6, B6, m6, k6)] ++ [(s7, qs, B7, m7, k7), (s8, rs, B8, m8, k8)]) ([(t1, ys1, C1, pn1, pc1), (t2, ys2, C2, pn2, pc2), (t3, ys3, C3, pn3, pc3), (t4, ys4, C4, pn4, pc4), (t5, ys5, C5, pn5, pc5), (t6, ys6, C6, pn6, pc6)] ++ [(s7, qs, A7, n7, c7), (s8, rs, A8, n8, c8)]) 0 LA KA lc kc w13 := ⟨hAL, hAK, hL, hK, hHB⟩
      have hPl : Places ([(t1, ys1, B1, m1, k1), (t2, ys2, B2, m2, k2), (t3, ys3, B3, m3, k3), (t4, ys4, B4, m4, k4), (t5, ys5, B5, m5, k5), (t6, ys6, B6, m6, k6)] ++ [(s7, qs, B7, m7, k7), (s8, rs, B8, m8, k8)]) ([(t1, ys1, C1, pn1, pc1), (t2, ys2, C2, pn2, pc2), (t3, ys3, C3, pn3, pc3), (t4, ys4, C4, pn4, pc4), (t5, ys5, C5, pn5, pc5), (t6, ys6, C6, pn6, pc6)] ++ [(s7, qs, A7, n7, c7), (s8, rs, A8, n8, c8)]) LA KA := by
        refine ⟨rfl, rfl, same_of_map rfl, ?_, ?_, ?_, ?_⟩
        · refine List.pairwise_append.2 ⟨PWL.out, .cons (fun p hp => by rw [List.mem_singleton.1 hp]; exact z78.out) (.cons (fun p hp => by cases hp) .nil), fun p hp q hq => ?_⟩
          exact sep_lt (a := r8) (fun g e => (WI.out p hp g e).2) (fun g e => by have := (WI2.out q hq g e).1; omega)
        · intro p hp q hq
          rcases List.mem_append.1 hp with hp | hp <;> rcases List.mem_append.1 hq with hq | hq
          · exact sep_lt (a := r8) (fun g e => (WI.out p hp g e).2) (fun g e => by have := (WK.out q hq g e).1; omega)
          · exact (sep_lt (a := W4.heap.size) (fun g e => (hwk2 q hq g e).2) (fun g e => by have := (WI.out p hp g e).1; omega)).symm
          · exact (sep_lt (a := r10) (fun g e => (WK.out q hq g e).2) (fun g e => by have := (WI2.out p hp g e).1; omega)).symm
          · exact (sep_lt (a := W4.heap.size) (fun g e => (hwk2 q hq g e).2) (fun g e => by have := (WI2.out p hp g e).1; omega)).symm
        · intro p hp
          rcases List.mem_append.1 hp with hp | hp
          · exact sep_lies (r := r8) (z := r11 + 3) (fun g e => by have := WI.out p hp g e; omega) LF.out
          · exact sep_lies (r := r8) (z := r11 + 3) (fun g e => by have := WI2.out p hp g e; omega) LF.out
        · intro p hp
          have hf : ∀ g, blk KA = some g → g = r10 ∨ w12.heap.size + 1 ≤ g := fun g e => (hf13 g e).imp (fun h => by have h' : r10 = g := (by simpa [blk] using h); exact h'.symm) (fun h => by omega)
          rcases List.mem_append.1 hp with hp | hp
          · exact sep_lies (r := r10) (z := w12.heap.size + 1) (fun g e => by have := WI.out p hp g e; omega) hf
          · exact sep_lies (r := r10) (z := w12.heap.size + 1) (fun g e => by have := WI2.out p hp g e; omega) hf
      have PL := Lib.hid hPl
      clear p0 p1 p2 p3 q0 q1 q2 q3 hneR hneK hne2 hneK2 hrow hwk2 hL hK hAL hAK hHB hPl h13 hg13 hf13 HA HB A12 AK AK2 CQ CR RL RK R2 WI WK WI2 PWL z78 LF
      have hbs := hIM.2.2.2.2.size
      generalize [(t1, ys1, B1, m1, k1), (t2, ys2, B2, m2, k2), (t3, ys3, B3, m3, k3), (t4, ys4, B4, m4, k4), (t5, ys5, B5, m5, k5), (t6, ys6, B6, m6, k6)] ++ [(s7, qs, B7, m7, k7), (s8, rs, B8, m8, k8)] = ll at *
      generalize [(t1, ys1, C1, pn1, pc1), (t2, ys2, C2, pn2, pc2), (t3, ys3, C3, pn3, pc3), (t4, ys4, C4, pn4, pc4), (t5, ys5, C5, pn5, pc5), (t6, ys6, C6, pn6, pc6)] ++ [(s7, qs, A7, n7, c7), (s8, rs, A8, n8, c8)] = kk at *
      go_wp2_with fail
      go_loopw [16] (fun iv w14 => ∃ i : Nat, iv = .int .i64 i ∧ i ≤ 8 ∧ InnerM W4 W4.heap.size ll kk i LA KA lc kc w14) (fun iv _ => 8 - (intOf iv).toNat)
      case atStart => exact ⟨0, rfl, by omega, hIM⟩
      case round =>
        obtain ⟨i, rfl, hi, hM⟩ := hrel
        clear hIM hbs
        by_cases hi8 : i < 8
        · obtain ⟨⟨ps, pxs, pA, pn, pc⟩, ⟨qs', qxs, qA, qn, qc⟩, g, g', ex, ex', hs1, hs2, rfl, rfl, hgl, hgl', a0, a1, d0, d1, ow, ok⟩ := hM.at_ PL.out hi8
          simp only at hs1 hs2 a0 a1 d0 d1 ow ok
          subst hs1
          subst hs2
          have hii : (i : Int) < 8 := by omega
          have hS := hM.2.2.2.2.size
          have HM := Lib.hid hM
          have C0 := Lib.hid a0
          have C1 := Lib.hid a1
          have G0 := Lib.hid d0
          have G1 := Lib.hid d1
          have OW := Lib.hid ow
          have OK := Lib.hid ok
          clear hM a0 a1 d0 d1 ow ok
          go_upto_region 16 with fail
          refine wp_region_chain [(11, STy.is (.slice (some ⟨g, 0, none⟩) 8 lc)), (12, STy.is (.slice (some ⟨g', 0, none⟩) 8 kc)), (16, STy.is (.int .i64 i)), (100, STy.is (.slice (some ⟨g, 0, none⟩) 8 lc)), (101, STy.is (.int .i64 i)), (102, STy.is (.pointer (some ⟨g, 0 + i * 2, none⟩))), (103, STy.is (.agg #[.bool ps, .slice pA pn pc])),
              (104, STy.is (.slice (some ⟨g', 0, none⟩) 8 kc)), (105, STy.is (.int .i64 i)), (106, STy.is (.pointer (some ⟨g', 0 + i * 2, none⟩))), (107, STy.is (.agg #[.bool ps, .slice qA qn qc])), (108, STy.is (.bool true))]
            [11, 12, 16] [] 152 9 (by kernel_rfl) (by kernel_rfl) rfl trivial ⟨rfl, rfl, rfl, trivial⟩ ?_ ?_ ?_
          · repeat' first
              | exact OpStepsG.nil
              | refine OpStepsG.run ?_ ?_
              | exact st_move fun _ _ h => h
              | exact stb_idx (fun _ _ h => h) (fun _ _ h => h) hi8 (fun _ => rfl)
              | exact st3_idx (fun _ _ h => h) (fun _ _ h => h) hi8 (fun _ => rfl)
              | exact stb_boxo (fun _ _ h => h) (cell_on C0.out hgl) (cell_on C1.out hgl) (fun _ => rfl)
              | exact st3_boxo (fun _ _ h => h) (cell_on G0.out hgl') (cell_on G1.out hgl') (fun _ => rfl)
              | exact sr_same (fun _ _ h => h) (fun _ _ h => h) OW.out.sl OK.out.sl (fun _ => rfl)
          · repeat' first
              | exact AllocsOk.nil
              | refine AllocsOk.cons ?_ ?_
              | exact fun T h => nomatch h
          intro v w15 ho _ hb
          have e1 : v 108 = .bool true := ho.slot (d := 108) (by simp [dstD])
          clear ho
          simp only [List.append_eq, List.cons_append, List.nil_append, List.take, List.drop, List.map_cons, List.map_nil, dstD, Option.getD_some, putAll, Act.put, List.setIfInBounds_toArray, List.set_cons_succ, List.set_cons_zero, e1]
          clear e1
          have b0 : w15.cell? ⟨g, i * 2, none⟩ = some (.bool ps) := by have := (hb.cell (p := ⟨g, 0 + i * 2, none⟩) hgl).trans C0.out; rwa [Nat.zero_add] at this
          have b1 : w15.cell? ⟨g, i * 2 + 1, none⟩ = some (.slice pA pn pc) := by have := (hb.cell (p := ⟨g, 0 + i * 2 + 1, none⟩) hgl).trans C1.out; rwa [Nat.zero_add] at this
          have OW2 := Lib.hid (OW.out.below hb)
          have HM2 := Lib.hid (HM.out.below hb hS)
          have hS2 := Nat.le_trans hS hb.size
          clear hb HM OW OK C0 C1 G0 G1
          go_wp2_with fail
          refine (bspoil_any ⟨_, OW2.out⟩).mono ?_
          rintro e w16 ⟨rfl, hg⟩
          have HM3 := Lib.hid (HM2.out.step PL.out ex hg hS2)
          clear hg HM2 OW2 b0 b1
          go_wp2_with fail
          refine ⟨⟨i + 1, by go_num, by omega, HM3.out⟩, ?_⟩
          simp [intOf] <;> omega
        · obtain rfl : i = 8 := by omega
          have HBz := Lib.hid hM.2.2.2.2
          clear hM
          go_wp2_with fail
          refine ⟨⟨k + 1, by go_num, by omega, HBz.out⟩, ?_⟩
          simp [intOf] <;> omega
    · obtain rfl : k = 2 := by omega
      have hbs := hb.size
      have T1 := Lib.hid ((S1.out.below hb (Nat.le_refl _)).more hbs)
      have T2 := Lib.hid ((S2.out.below hb (Nat.le_refl _)).more hbs)
      have CX := Lib.hid (Boxed.below BX.out hb (by omega))
      have CY := Lib.hid (Boxed.below BY.out hb (by omega))
      have CA := Lib.hid (Boxed.below D1.out hb (by omega))
      have CB := Lib.hid (Boxed.below D2.out hb (by omega))
      have P5 := Lib.hid ((O5.out.below hb).sl)
      have P6 := Lib.hid ((O6.out.below hb).sl)
      have E4 := Lib.hid (E3.out.below hb)
      have V4 := Lib.hid (V3.out.trans (hb.mono V3.out.size))
      clear hb
      go_upto_region 21 with fail
      refine wp_region_chain [(2, STy.is (.pointer (some ⟨w.heap.size, 0, none⟩))), (3, STy.is (.pointer (some ⟨w.heap.size + 1, 0, none⟩))), (5, STy.is (.pointer (some ⟨r1, 0, none⟩))), (6, STy.is (.pointer (some ⟨r2, 0, none⟩))), (118, STy.is (.agg #[.bool s, .slice A1 n1 c1])), (119, STy.is (.bool (rgt s xs))),
          (120, STy.is (.agg #[.bool s, .slice A5 n5 c5])), (121, STy.is (.bool (rgt s xs))), (122, STy.is (.bool true)), (123, STy.is (.bool true)), (124, STy.is (.agg #[.bool s, .slice A1 n1 c1])), (125, STy.is (.agg #[.bool t, .slice A2 n2 c2])),
          (126, STy.is (.int .i64 (cmpI (ival s xs) (ival t ys)))), (127, STy.is (.agg #[.bool s, .slice A5 n5 c5])), (128, STy.is (.agg #[.bool t, .slice A6 n6 c6])), (129, STy.is (.int .i64 (cmpI (ival s xs) (ival t ys)))), (130, STy.is (.bool true)), (131, STy.is (.bool true)),
          (132, STy.is (.bool true)), (133, STy.is (.agg #[.bool s, .slice A1 n1 c1])), (134, STy.is (.int .i64 (cmpI (ival s xs) 0))), (135, STy.is (.agg #[.bool s, .slice A5 n5 c5])), (136, STy.is (.int .i64 (cmpI (ival s xs) 0))), (137, STy.is (.bool true)),
          (138, STy.is (.bool true)), (139, STy.is (.bool true)), (140, STy.is (.agg #[.bool s, .slice A1 n1 c1])), (141, STy.is (.agg #[.bool s, .slice A5 n5 c5])), (142, STy.is (.bool true)), (143, STy.is (.bool true)),
          (144, STy.is (.bool true)), (145, STy.is (.agg #[.bool t, .slice A2 n2 c2])), (146, STy.is (.agg #[.bool t, .slice A6 n6 c6])), (147, STy.is (.bool true)), (148, STy.is (.bool true)), (149, STy.is (.bool true)),
          (150, STy.is (.bool true)), (151, STy.is (.bool true))]
          [2, 3, 5, 6] [(123, true), (132, true), (139, true), (144, true), (149, true)] 152 34 (by kernel_rfl) (by kernel_rfl) rfl ⟨fun _ _ h => h, fun _ _ h => h, fun _ _ h => h, fun _ _ h => h, fun _ _ h => h, trivial⟩ ⟨rfl, rfl, rfl, rfl, trivial⟩ ?_ ?_ ?_
      · repeat' first
          | exact OpStepsG.nil
          | refine OpStepsG.skip (by rfl) ?_
          | refine OpStepsG.run ?_ ?_
          | exact st_move fun _ _ h => h
          | exact st_assign fun _ _ h => h
          | exact stb_box (fun _ _ h => h) (cell_on CX.out.1 (by omega)) (cell_on CX.out.2.1 (by omega)) (fun _ => rfl)
          | exact stb_box (fun _ _ h => h) (cell_on CY.out.1 (by omega)) (cell_on CY.out.2.1 (by omega)) (fun _ => rfl)
          | exact st3_box (fun _ _ h => h) (cell_on CA.out.1 (by omega)) (cell_on CA.out.2.1 (by omega)) (fun _ => rfl)
          | exact st3_box (fun _ _ h => h) (cell_on CB.out.1 (by omega)) (cell_on CB.out.2.1 (by omega)) (fun _ => rfl)
          | exact sr_right (fun _ _ h => h) T1.out (fun _ => rfl)
          | exact sr_right3 (fun _ _ h => h) P5.out (fun _ => rfl)
          | exact sr_cmp (fun _ _ h => h) (fun _ _ h => h) T1.out T2.out DX.out DY.out (by omega) (by omega) (fun _ => rfl)
          | exact sr_cmp3 (fun _ _ h => h) (fun _ _ h => h) P5.out P6.out DX.out DY.out (by omega) (by omega) (fun _ => rfl)
          | exact sr_sign (fun _ _ h => h) T1.out DX.out (by omega) (fun _ => rfl)
          | exact sr_sign3 (fun _ _ h => h) P5.out DX.out (by omega) (fun _ => rfl)
          | exact sr_same (fun _ _ h => h) (fun _ _ h => h) T1.out P5.out (fun _ => rfl)
          | exact sr_same (fun _ _ h => h) (fun _ _ h => h) T2.out P6.out (fun _ => rfl)
          | exact st_eqB (fun _ _ h => h) (fun _ _ h => h) (fun _ => congrArg Value.bool (beq_self_eq_true _))
          | exact st_eqI (fun _ _ h => h) (fun _ _ h => h) (fun _ => congrArg Value.bool (beq_self_eq_true _))
          | exact st_pickAnd (u := true) (v := true) (fun _ _ h => h) (fun _ => fun _ _ h => h) (fun _ => rfl)
          | exact sn_works E4.out (fun _ => rfl)
      · repeat' first
          | exact AllocsOk.nil
          | refine AllocsOk.cons ?_ ?_
          | exact fun T h => nomatch h
      intro v w9 ho _ hb
      have e1 : v 151 = .bool true := ho.slot (d := 151) (by simp [dstD])
      clear ho
      simp only [List.append_eq, List.cons_append, List.nil_append, List.take, List.drop, List.map_cons, List.map_nil, dstD, Option.getD_some, putAll, Act.put, List.setIfInBounds_toArray, List.set_cons_succ, List.set_cons_zero, e1]
      clear e1
      have V5 := Lib.hid (V4.out.trans (hb.mono V4.out.size))
      clear hb
      go_wp2_with fail
      go_ret
      exact ⟨rfl, V5.out⟩
theorem BigReckons_any {w : World} {B : Nat} {s t : Bool} {A1 A2 : Option Addr} {n1 c1 n2 c2 : Nat} {xs ys : List Int} (h1 : Sl .u32 w B A1 n1 c1 xs) (h2 : Sl .u32 w B A2 n2 c2 ys) (hB : B ≤ w.heap.size) (hE : Env w) (hx : Dg 4294967296 xs) (hy : Dg 4294967296 ys) :
    Calls Tryz.prog 3 #[.agg #[.bool s, .slice A1 n1 c1], .agg #[.bool t, .slice A2 n2 c2]] w fun e w' => e = .returned (.bool true) ∧ Below w.heap.size w w' := by
  cases HA : decide ((30 : Int) < (n1 : Int)) with
  | true => exact breckons_la h1 h2 hB hE hx hy HA
  | false =>
    cases HB : decide ((30 : Int) < (n2 : Int)) with
    | true => exact breckons_lb h1 h2 hB hE hx hy HA HB
    | false => exact breckons_main h1 h2 hB hE hx hy HA HB
end Go.Proofs.YtbjooeapjhaapaaGreatDoor
