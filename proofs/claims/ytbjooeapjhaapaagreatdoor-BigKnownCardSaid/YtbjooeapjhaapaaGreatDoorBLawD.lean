/- tallagelaw03.BigBack: the walk of right numbers. -/
import Derived.Test.YtbjooeapjhaapaaGreatDoorBLawC
namespace Go.Proofs.YtbjooeapjhaapaaGreatDoor
open Go Go.RowKit

section
variable {E : List (Nat × STy)} {w0 : World} {d : Nat} {ty : TypeId} {pos : String} {af : Array Edge} {gd : Option (Nat × Bool)} {ats : Array TypeId}
/-- Nothing, for 0 goes into none. -/
def STy.div0 : STy := STy.is (.tuple #[.agg #[.bool false, .slice none 0 0], .agg #[.bool false, .slice none 0 0], .int .i64 20])
theorem sn_div0 {o0 o1 : Operand} {N M : Int} {L K : Nat} (h0 : OpHas E o0 (STy.num N L).holds) (h1 : OpHas E o1 (STy.num M K).holds) (hE : Env w0) (hM : M = 0) (hL : L ≤ 1000000) (hK : K ≤ 1000000) (hd : ∀ w v, STy.div0.holds w v → (slotTy E d).holds w v) :
    OpStep Tryz.prog E w0 ⟨some d, .call { callee := .value (.func 23), args := #[o0, o1], argTypes := ats }, ty, pos, af, gd⟩ :=
  st_call2 en_div h0 h1 fun W v0 v1 hb k0 k1 => by
    subst hM
    obtain ⟨s, A, n, c, rfl, i0⟩ := k0
    obtain ⟨t, A1, m, c1, rfl, i1⟩ := k1
    refine (divN_zero i0 i1 (hE.below hb) hL hK).mono ?_
    rintro e w' ⟨rfl, hb2⟩
    exact ⟨⟨_, rfl, hd _ _ rfl⟩, hb2⟩
theorem sn_d00 {s : Nat} (h : ∀ w v, (slotTy E s).holds w v → STy.div0.holds w v) (hd : ∀ w, (slotTy E d).holds w (.agg #[.bool false, .slice none 0 0])) : OpStep Tryz.prog E w0 ⟨some d, .extract (.tmp s) 0, ty, pos, af, gd⟩ :=
  st_extract fun w v hv => ⟨_, _, h w v hv, rfl, hd _⟩
theorem sn_d01 {s : Nat} (h : ∀ w v, (slotTy E s).holds w v → STy.div0.holds w v) (hd : ∀ w, (slotTy E d).holds w (.agg #[.bool false, .slice none 0 0])) : OpStep Tryz.prog E w0 ⟨some d, .extract (.tmp s) 1, ty, pos, af, gd⟩ :=
  st_extract fun w v hv => ⟨_, _, h w v hv, rfl, hd _⟩
theorem sn_d02 {s : Nat} (h : ∀ w v, (slotTy E s).holds w v → STy.div0.holds w v) (hd : ∀ w, (slotTy E d).holds w (.int .i64 20)) : OpStep Tryz.prog E w0 ⟨some d, .extract (.tmp s) 2, ty, pos, af, gd⟩ :=
  st_extract fun w v hv => ⟨_, _, h w v hv, rfl, hd _⟩
end
set_option maxRecDepth 20000 in
set_option maxHeartbeats 8000000 in
theorem bback_main {w : World} {B : Nat} {s t u : Bool} {A1 A2 A3 : Option Addr} {n1 c1 n2 c2 n3 c3 : Nat} {xs ys zs : List Int} (h1 : Sl .u32 w B A1 n1 c1 xs) (h2 : Sl .u32 w B A2 n2 c2 ys) (h3 : Sl .u32 w B A3 n3 c3 zs) (hB : B ≤ w.heap.size) (hE : Env w) (hx : Dg 4294967296 xs) (hy : Dg 4294967296 ys) (hz : Dg 4294967296 zs) (HA : decide ((20 : Int) < (n1 : Int)) = false) (HB : decide ((20 : Int) < (n2 : Int)) = false) (HC : decide ((20 : Int) < (n3 : Int)) = false) (RA : rgt s xs = true) (RB : rgt t ys = true) (RC : rgt u zs = true) :
    Calls Tryz.prog 6 #[.agg #[.bool s, .slice A1 n1 c1], .agg #[.bool t, .slice A2 n2 c2], .agg #[.bool u, .slice A3 n3 c3]] w fun e w' => e = .returned (.bool true) ∧ Below w.heap.size w w' := by
  obtain ⟨bX, bY, bZ, hlt, _⟩ := box_new3 (w := w) (v0 := .bool s) (v1 := .slice A1 n1 c1) (u0 := .bool t) (u1 := .slice A2 n2 c2) (x0 := .bool u) (x1 := .slice A3 n3 c3) (t := 24) (t2 := 24) (t3 := 24) (Below.refl _ _)
  have hb0 : Below w.heap.size w (((w.alloc (.cells #[.bool s, .slice A1 n1 c1] 24)).alloc (.cells #[.bool t, .slice A2 n2 c2] 24)).alloc (.cells #[.bool u, .slice A3 n3 c3] 24)) := (((Below.refl _ _).alloc (Nat.le_refl _) _).alloc (by rw [size_one]; omega) _).alloc (by rw [size_two]; omega) _
  have S1 := Lib.hid ((h1.below hb0 hB).more (Nat.le_trans hB hb0.size))
  have S2 := Lib.hid ((h2.below hb0 hB).more (Nat.le_trans hB hb0.size))
  have S3 := Lib.hid ((h3.below hb0 hB).more (Nat.le_trans hB hb0.size))
  have BX := Lib.hid bX
  have BY := Lib.hid bY
  have BZ := Lib.hid bZ
  have E0 := Lib.hid (hE.below hb0)
  have V0 := Lib.hid hb0
  have DX := Lib.hid hx
  have DY := Lib.hid hy
  have DZ := Lib.hid hz
  clear h1 h2 h3 hb0 bX bY bZ hE hx hy hz
  go_enter Tryz.func6, Tryz.ntmps6
  go_upto_region 1 with fail
  generalize (((w.alloc (.cells #[.bool s, .slice A1 n1 c1] 24)).alloc (.cells #[.bool t, .slice A2 n2 c2] 24)).alloc (.cells #[.bool u, .slice A3 n3 c3] 24)) = W0 at S1 S2 S3 BX BY BZ E0 V0 hlt ⊢
  refine wp_region_flow [(3, STy.is (.pointer (some ⟨w.heap.size, 0, none⟩))), (4, STy.is (.pointer (some ⟨w.heap.size + 1, 0, none⟩))), (5, STy.is (.pointer (some ⟨w.heap.size + 2, 0, none⟩))), (19, STy.is (.pointer (some ⟨w.heap.size, 1, none⟩))), (20, STy.is (.slice A1 n1 c1)), (21, STy.is (.int .i64 n1)),
      (22, STy.is (.bool false)), (23, STy.is (.bool false)), (24, STy.is (.pointer (some ⟨w.heap.size + 1, 1, none⟩))), (25, STy.is (.slice A2 n2 c2)), (26, STy.is (.int .i64 n2)), (27, STy.is (.bool false)),
      (28, STy.is (.bool false)), (29, STy.is (.bool false)), (30, STy.is (.pointer (some ⟨w.heap.size + 2, 1, none⟩))), (31, STy.is (.slice A3 n3 c3)), (32, STy.is (.int .i64 n3)), (33, STy.is (.bool false)),
      (34, STy.is (.bool false)), (35, STy.is (.bool false)), (36, STy.is (.agg #[.bool s, .slice A1 n1 c1])), (37, STy.is (.bool true)), (38, STy.is (.bool false)), (39, STy.is (.bool false)),
      (40, STy.is (.bool false)), (41, STy.is (.agg #[.bool t, .slice A2 n2 c2])), (42, STy.is (.bool true)), (43, STy.is (.bool false)), (44, STy.is (.bool false)), (45, STy.is (.bool false)),
      (46, STy.is (.agg #[.bool u, .slice A3 n3 c3])), (47, STy.is (.bool true)), (48, STy.is (.bool false)), (49, STy.is (.bool false))]
      [3, 4, 5] [(23, false), (29, false), (35, false), (40, false), (45, false)] 203 31 (by kernel_rfl) rfl ⟨fun _ _ h => h, fun _ _ h => h, fun _ _ h => h, fun _ _ h => h, fun _ _ h => h, trivial⟩ ⟨rfl, rfl, rfl, trivial⟩ ?_ ?_
  · repeat' first
      | exact OpStepsG.nil
      | refine OpStepsG.skip (by rfl) ?_
      | refine OpStepsG.run ?_ ?_
      | exact st_move fun _ _ h => h
      | exact st_assign fun _ _ h => h
      | exact stb_addr1 (fun _ _ h => h) (fun _ => rfl)
      | exact st_cellU (fun _ _ h => h) (cell_on BX.out.2.1 (by omega)) (fun _ => rfl)
      | exact stb_box (fun _ _ h => h) (cell_on BX.out.1 (by omega)) (cell_on BX.out.2.1 (by omega)) (fun _ => rfl)
      | exact st_cellU (fun _ _ h => h) (cell_on BY.out.2.1 (by omega)) (fun _ => rfl)
      | exact stb_box (fun _ _ h => h) (cell_on BY.out.1 (by omega)) (cell_on BY.out.2.1 (by omega)) (fun _ => rfl)
      | exact st_cellU (fun _ _ h => h) (cell_on BZ.out.2.1 (by omega)) (fun _ => rfl)
      | exact stb_box (fun _ _ h => h) (cell_on BZ.out.1 (by omega)) (cell_on BZ.out.2.1 (by omega)) (fun _ => rfl)
      | exact st_lenU (fun _ _ h => h) (fun _ => rfl)
      | exact st_gtrI (fun _ _ h => h) rfl (fun _ => congrArg Value.bool HA)
      | exact st_gtrI (fun _ _ h => h) rfl (fun _ => congrArg Value.bool HB)
      | exact st_gtrI (fun _ _ h => h) rfl (fun _ => congrArg Value.bool HC)
      | exact sn_right (fun _ _ h => h) S1.out RA (fun _ => rfl)
      | exact sn_right (fun _ _ h => h) S2.out RB (fun _ => rfl)
      | exact sn_right (fun _ _ h => h) S3.out RC (fun _ => rfl)
      | exact st_notB (u := true) (fun _ _ h => h) (fun _ => rfl)
      | exact st_notB (u := false) (fun _ _ h => h) (fun _ => rfl)
      | exact st_pickOr (u := true) (v := false) (fun _ _ h => h) (fun h => nomatch h) (fun _ => rfl)
      | exact st_pickOr (u := false) (v := true) (fun _ _ h => h) (fun _ => fun _ _ h => h) (fun _ => rfl)
      | exact st_pickOr (u := false) (v := false) (fun _ _ h => h) (fun _ => fun _ _ h => h) (fun _ => rfl)
  intro v w9 ho hb
  have e1 : v 49 = .bool false := ho.slot (d := 49) (by simp [dstD])
  clear ho
  simp only [List.append_eq, List.cons_append, List.nil_append, List.take, List.drop, List.map_cons, List.map_nil, dstD, Option.getD_some, putAll, Act.put, List.setIfInBounds_toArray, List.set_cons_succ, List.set_cons_zero, e1]
  clear e1
  have q1 := of_decide_eq_false HA
  have q2 := of_decide_eq_false HB
  have q3 := of_decide_eq_false HC
  generalize hN : ival s xs = N
  generalize hM : ival t ys = M
  generalize hK : ival u zs = K
  have YA := Lib.hid ((BoxN.of BX.out (by omega) RA DX.out S1.out (show n1 ≤ 20 by omega) hN).up hb)
  have YB := Lib.hid ((BoxN.of BY.out (by omega) RB DY.out S2.out (show n2 ≤ 20 by omega) hM).up hb)
  have YC := Lib.hid ((BoxN.of BZ.out hlt RC DZ.out S3.out (show n3 ≤ 20 by omega) hK).up hb)
  have NL := Lib.hid (show (N.natAbs : Int) < 4294967296 ^ 20 by
    obtain ⟨_, s', A', n', c', _, hi⟩ := YA.out
    exact hi.lt)
  have V1 := Lib.hid (V0.out.trans (hb.mono V0.out.size))
  have E1 := Lib.hid (E0.out.below hb)
  clear hb S1 S2 S3 BX BY BZ E0 V0 DX DY DZ HA HB HC RA RB RC hN hM hK q1 q2 q3 hlt
  go_upto_region 3 with fail
  by_cases hM0 : M = 0
  case' pos =>
    refine wp_region_flow [(3, STy.is (.pointer (some ⟨w.heap.size, 0, none⟩))), (4, STy.is (.pointer (some ⟨w.heap.size + 1, 0, none⟩))), (5, STy.is (.pointer (some ⟨w.heap.size + 2, 0, none⟩))), (52, STy.num (N) (20)), (53, STy.num (M) (20)), (54, STy.div0),
        (51, STy.div0), (55, STy.is (.agg #[.bool false, .slice none 0 0])), (56, STy.is (.agg #[.bool false, .slice none 0 0])), (57, STy.is (.int .i64 20))]
        [3, 4, 5] [] 203 7 (by kernel_rfl) rfl trivial ⟨rfl, rfl, rfl, trivial⟩ ?_ ?_
    · repeat' first
        | exact OpStepsG.nil
        | refine OpStepsG.skip (by rfl) ?_
        | refine OpStepsG.run ?_ ?_
        | exact st_move fun _ _ h => h
        | exact st_assign fun _ _ h => h
        | exact sn_load (fun _ _ h => h) YA.out (fun _ _ h => h)
        | exact sn_load (fun _ _ h => h) YB.out (fun _ _ h => h)
        | exact sn_load (fun _ _ h => h) YC.out (fun _ _ h => h)
        | exact sn_add (fun _ _ h => h) (fun _ _ h => h) (by decide) (by decide) (fun _ _ h => h)
        | exact sn_sub (fun _ _ h => h) (fun _ _ h => h) (by decide) (by decide) (fun _ _ h => h)
        | exact sn_mul (fun _ _ h => h) (fun _ _ h => h) (by decide) (by decide) (fun _ _ h => h)
        | exact sn_abs (fun _ _ h => h) (by decide) (fun _ _ h => h)
        | exact sn_cmp (fun _ _ h => h) (fun _ _ h => h) (by decide) (by decide) (fun _ => rfl)
        | exact sn_sign (fun _ _ h => h) (by decide) (fun _ => rfl)
        | exact sn_gcd (fun _ _ h => h) (fun _ _ h => h) E1.out (by decide) (by decide) (fun _ _ h => h)
        | exact sn_put (fun _ _ h => h) E1.out (by decide) (fun _ _ h => h)
        | exact sn_parse (fun _ _ h => h) NL.out (by decide) (fun _ _ h => h)
        | exact sn_pnum (fun _ _ h => h) (fun _ _ h => h)
        | exact sn_perr (fun _ _ h => h) (fun _ => rfl)
        | exact sn_quo (fun _ _ h => h) (fun _ _ h => h)
        | exact sn_rem (fun _ _ h => h) (fun _ _ h => h)
        | exact sn_err (fun _ _ h => h) (fun _ => rfl)
        | exact sn_d00 (fun _ _ h => h) (fun _ => rfl)
        | exact sn_d01 (fun _ _ h => h) (fun _ => rfl)
        | exact sn_d02 (fun _ _ h => h) (fun _ => rfl)
        | exact sn_works E1.out (fun _ => rfl)
        | exact st_eqE (x := 0) (y := 0) (fun _ _ h => h) rfl (fun _ => rfl)
        | exact st_eqE (x := 20) (y := 0) (fun _ _ h => h) rfl (fun _ => rfl)
        | exact st_neqE (x := 0) (y := 0) (fun _ _ h => h) rfl (fun _ => rfl)
        | exact st_notB (u := true) (fun _ _ h => h) (fun _ => rfl)
        | exact st_eqB (u := true) (v := true) (fun _ _ h => h) (fun _ _ h => h) (fun _ => rfl)
        | exact st_eqB (u := true) (v := false) (fun _ _ h => h) (fun _ _ h => h) (fun _ => rfl)
        | exact st_notB (u := false) (fun _ _ h => h) (fun _ => rfl)
        | exact st_eqB (u := false) (v := true) (fun _ _ h => h) (fun _ _ h => h) (fun _ => rfl)
        | exact st_eqB (u := false) (v := false) (fun _ _ h => h) (fun _ _ h => h) (fun _ => rfl)
        | exact st_pickAnd (u := true) (v := true) (fun _ _ h => h) (fun _ => fun _ _ h => h) (fun _ => rfl)
        | exact st_pickAnd (u := true) (v := false) (fun _ _ h => h) (fun _ => fun _ _ h => h) (fun _ => rfl)
        | exact st_pickAnd (u := false) (v := false) (fun _ _ h => h) (fun h => nomatch h) (fun _ => rfl)
        | exact st_pickOr (u := true) (v := false) (fun _ _ h => h) (fun h => nomatch h) (fun _ => rfl)
        | exact st_pickOr (u := false) (v := true) (fun _ _ h => h) (fun _ => fun _ _ h => h) (fun _ => rfl)
        | exact st_pickOr (u := false) (v := false) (fun _ _ h => h) (fun _ => fun _ _ h => h) (fun _ => rfl)
        | exact sn_div0 (fun _ _ h => h) (fun _ _ h => h) E1.out hM0 (by decide) (by decide) (fun _ _ h => h)
    intro v w9 ho hb
    have e1 : v 55 = .agg #[.bool false, .slice none 0 0] := ho.slot (d := 55) (by simp [dstD])
    have e2 : v 56 = .agg #[.bool false, .slice none 0 0] := ho.slot (d := 56) (by simp [dstD])
    have e3 : v 57 = .int .i64 20 := ho.slot (d := 57) (by simp [dstD])
    clear ho
    simp only [List.append_eq, List.cons_append, List.nil_append, List.take, List.drop, List.map_cons, List.map_nil, dstD, Option.getD_some, putAll, Act.put, List.setIfInBounds_toArray, List.set_cons_succ, List.set_cons_zero, e1, e2, e3]
    clear e1 e2 e3
    have i1 : IsN w9 0 0 false none 0 0 := IsN.zero
    have i2 : IsN w9 0 0 false none 0 0 := IsN.zero
    go_upto_region 4 with fail
    obtain ⟨x1, x2, x3⟩ := BoxN.new2 i1 i2 24 24
    have hbb := hb.trans (x3.mono hb.size)
    have V2 := Lib.hid (V1.out.trans (hbb.mono V1.out.size))
    have E2 := Lib.hid (E1.out.below hbb)
    replace YA := Lib.hid (YA.out.up hbb)
    replace YB := Lib.hid (YB.out.up hbb)
    replace YC := Lib.hid (YC.out.up hbb)
    have YQ := Lib.hid x1
    have YR := Lib.hid x2
    clear hb hbb x1 x2 x3 i1 i2 V1 E1
    generalize hsz : w9.heap.size = r1 at *
    generalize (w9.alloc (.cells #[.bool _, .slice _ _ _] 24)).alloc (.cells #[.bool _, .slice _ _ _] 24) = W2 at *
    clear hsz
    have ZM : (cmpI M 0 == 0) = true := by rw [cmp_zero]; exact decide_eq_true hM0
    refine wp_region_chainU [(3, STy.is (.pointer (some ⟨w.heap.size, 0, none⟩))), (4, STy.is (.pointer (some ⟨w.heap.size + 1, 0, none⟩))), (5, STy.is (.pointer (some ⟨w.heap.size + 2, 0, none⟩))), (7, STy.is (.pointer (some ⟨r1, 0, none⟩))), (8, STy.is (.pointer (some ⟨r1 + 1, 0, none⟩))), (9, STy.is (.int .i64 20)),
        (58, STy.is (.int .i64 20)), (59, STy.is (.bool false)), (60, STy.num (M) (20)), (61, STy.is (.int .i64 (cmpI (M) 0))), (62, STy.is (.bool true)), (63, STy.is (.bool false)),
        (64, STy.is (.bool false)), (65, STy.is (.int .i64 20)), (66, STy.is (.bool false)), (67, STy.is (.bool false)), (76, STy.is (undef)), (80, STy.is (undef)),
        (88, STy.is (undef)), (96, STy.is (.bool false))]
        [3, 4, 5, 7, 8, 9] [(64, false), (67, false)] [76, 80, 88] 203 39 (by kernel_rfl) (by kernel_rfl) ⟨rfl, rfl, rfl, trivial⟩ rfl ⟨fun _ _ h => h, fun _ _ h => h, trivial⟩ ⟨rfl, rfl, rfl, rfl, rfl, rfl, trivial⟩ ?_ ?_ ?_
    · repeat' first
        | exact OpStepsG.nil
        | refine OpStepsG.skip (by rfl) ?_
        | refine OpStepsG.run ?_ ?_
        | exact st_move fun _ _ h => h
        | exact st_assign fun _ _ h => h
        | exact sn_load (fun _ _ h => h) YA.out (fun _ _ h => h)
        | exact sn_load (fun _ _ h => h) YB.out (fun _ _ h => h)
        | exact sn_load (fun _ _ h => h) YC.out (fun _ _ h => h)
        | exact sn_load (fun _ _ h => h) YQ.out (fun _ _ h => h)
        | exact sn_load (fun _ _ h => h) YR.out (fun _ _ h => h)
        | exact sn_add (fun _ _ h => h) (fun _ _ h => h) (by decide) (by decide) (fun _ _ h => h)
        | exact sn_sub (fun _ _ h => h) (fun _ _ h => h) (by decide) (by decide) (fun _ _ h => h)
        | exact sn_mul (fun _ _ h => h) (fun _ _ h => h) (by decide) (by decide) (fun _ _ h => h)
        | exact sn_abs (fun _ _ h => h) (by decide) (fun _ _ h => h)
        | exact sn_cmp (fun _ _ h => h) (fun _ _ h => h) (by decide) (by decide) (fun _ => rfl)
        | exact sn_sign (fun _ _ h => h) (by decide) (fun _ => rfl)
        | exact sn_gcd (fun _ _ h => h) (fun _ _ h => h) E2.out (by decide) (by decide) (fun _ _ h => h)
        | exact sn_put (fun _ _ h => h) E2.out (by decide) (fun _ _ h => h)
        | exact sn_parse (fun _ _ h => h) NL.out (by decide) (fun _ _ h => h)
        | exact sn_pnum (fun _ _ h => h) (fun _ _ h => h)
        | exact sn_perr (fun _ _ h => h) (fun _ => rfl)
        | exact sn_quo (fun _ _ h => h) (fun _ _ h => h)
        | exact sn_rem (fun _ _ h => h) (fun _ _ h => h)
        | exact sn_err (fun _ _ h => h) (fun _ => rfl)
        | exact sn_d00 (fun _ _ h => h) (fun _ => rfl)
        | exact sn_d01 (fun _ _ h => h) (fun _ => rfl)
        | exact sn_d02 (fun _ _ h => h) (fun _ => rfl)
        | exact sn_works E2.out (fun _ => rfl)
        | exact st_eqI (fun _ _ h => h) rfl (fun _ => congrArg Value.bool ZM)
        | exact st_neqI (fun _ _ h => h) rfl (fun _ => congrArg Value.bool ZM)
        | exact st_neqI (fun _ _ h => h) (fun _ _ h => h) (fun _ => congrArg Value.bool ZM)
        | exact st_eqE (x := 0) (y := 0) (fun _ _ h => h) rfl (fun _ => rfl)
        | exact st_eqE (x := 20) (y := 0) (fun _ _ h => h) rfl (fun _ => rfl)
        | exact st_neqE (x := 0) (y := 0) (fun _ _ h => h) rfl (fun _ => rfl)
        | exact st_notB (u := true) (fun _ _ h => h) (fun _ => rfl)
        | exact st_eqB (u := true) (v := true) (fun _ _ h => h) (fun _ _ h => h) (fun _ => rfl)
        | exact st_eqB (u := true) (v := false) (fun _ _ h => h) (fun _ _ h => h) (fun _ => rfl)
        | exact st_notB (u := false) (fun _ _ h => h) (fun _ => rfl)
        | exact st_eqB (u := false) (v := true) (fun _ _ h => h) (fun _ _ h => h) (fun _ => rfl)
        | exact st_eqB (u := false) (v := false) (fun _ _ h => h) (fun _ _ h => h) (fun _ => rfl)
        | exact st_pickAnd (u := true) (v := true) (fun _ _ h => h) (fun _ => fun _ _ h => h) (fun _ => rfl)
        | exact st_pickAnd (u := true) (v := false) (fun _ _ h => h) (fun _ => fun _ _ h => h) (fun _ => rfl)
        | exact st_pickAnd (u := false) (v := false) (fun _ _ h => h) (fun h => nomatch h) (fun _ => rfl)
        | exact st_pickOr (u := true) (v := false) (fun _ _ h => h) (fun h => nomatch h) (fun _ => rfl)
        | exact st_pickOr (u := false) (v := true) (fun _ _ h => h) (fun _ => fun _ _ h => h) (fun _ => rfl)
        | exact st_pickOr (u := false) (v := false) (fun _ _ h => h) (fun _ => fun _ _ h => h) (fun _ => rfl)
    · repeat' first
        | exact AllocsOk.nil
        | refine AllocsOk.cons ?_ ?_
        | exact fun T h => nomatch h
    intro v w9 ho _ hb
    have e1 : v 64 = .bool false := ho.slot (d := 64) (by simp [dstD])
    have e2 : v 96 = .bool false := ho.slot (d := 96) (by simp [dstD])
    clear ho
    simp only [List.append_eq, List.cons_append, List.nil_append, List.take, List.drop, List.map_cons, List.map_nil, dstD, Option.getD_some, putAll, Act.put, List.setIfInBounds_toArray, List.set_cons_succ, List.set_cons_zero, e1, e2]
    clear e1 e2
    go_upto_region 6 with fail
    have V3 := Lib.hid (V2.out.trans (hb.mono V2.out.size))
    have E3 := Lib.hid (E2.out.below hb)
    replace YA := Lib.hid (YA.out.up hb)
    replace YB := Lib.hid (YB.out.up hb)
    replace YC := Lib.hid (YC.out.up hb)
    clear hb V2 E2 YQ YR
  case' neg =>
    refine wp_region_flow [(3, STy.is (.pointer (some ⟨w.heap.size, 0, none⟩))), (4, STy.is (.pointer (some ⟨w.heap.size + 1, 0, none⟩))), (5, STy.is (.pointer (some ⟨w.heap.size + 2, 0, none⟩))), (52, STy.num (N) (20)), (53, STy.num (M) (20)), (54, STy.div (N) (M) (20) (20)),
        (51, STy.div (N) (M) (20) (20)), (55, STy.num (Int.fdiv (N) (M)) (21)), (56, STy.num (Int.fmod (N) (M)) (20)), (57, STy.is (.int .i64 0))]
        [3, 4, 5] [] 203 7 (by kernel_rfl) rfl trivial ⟨rfl, rfl, rfl, trivial⟩ ?_ ?_
    · repeat' first
        | exact OpStepsG.nil
        | refine OpStepsG.skip (by rfl) ?_
        | refine OpStepsG.run ?_ ?_
        | exact st_move fun _ _ h => h
        | exact st_assign fun _ _ h => h
        | exact sn_load (fun _ _ h => h) YA.out (fun _ _ h => h)
        | exact sn_load (fun _ _ h => h) YB.out (fun _ _ h => h)
        | exact sn_load (fun _ _ h => h) YC.out (fun _ _ h => h)
        | exact sn_add (fun _ _ h => h) (fun _ _ h => h) (by decide) (by decide) (fun _ _ h => h)
        | exact sn_sub (fun _ _ h => h) (fun _ _ h => h) (by decide) (by decide) (fun _ _ h => h)
        | exact sn_mul (fun _ _ h => h) (fun _ _ h => h) (by decide) (by decide) (fun _ _ h => h)
        | exact sn_abs (fun _ _ h => h) (by decide) (fun _ _ h => h)
        | exact sn_cmp (fun _ _ h => h) (fun _ _ h => h) (by decide) (by decide) (fun _ => rfl)
        | exact sn_sign (fun _ _ h => h) (by decide) (fun _ => rfl)
        | exact sn_gcd (fun _ _ h => h) (fun _ _ h => h) E1.out (by decide) (by decide) (fun _ _ h => h)
        | exact sn_put (fun _ _ h => h) E1.out (by decide) (fun _ _ h => h)
        | exact sn_parse (fun _ _ h => h) NL.out (by decide) (fun _ _ h => h)
        | exact sn_pnum (fun _ _ h => h) (fun _ _ h => h)
        | exact sn_perr (fun _ _ h => h) (fun _ => rfl)
        | exact sn_quo (fun _ _ h => h) (fun _ _ h => h)
        | exact sn_rem (fun _ _ h => h) (fun _ _ h => h)
        | exact sn_err (fun _ _ h => h) (fun _ => rfl)
        | exact sn_d00 (fun _ _ h => h) (fun _ => rfl)
        | exact sn_d01 (fun _ _ h => h) (fun _ => rfl)
        | exact sn_d02 (fun _ _ h => h) (fun _ => rfl)
        | exact sn_works E1.out (fun _ => rfl)
        | exact sn_div (fun _ _ h => h) (fun _ _ h => h) E1.out hM0 (by decide) (by decide) (fun _ _ h => h)
        | exact st_eqE (x := 0) (y := 0) (fun _ _ h => h) rfl (fun _ => rfl)
        | exact st_eqE (x := 20) (y := 0) (fun _ _ h => h) rfl (fun _ => rfl)
        | exact st_neqE (x := 0) (y := 0) (fun _ _ h => h) rfl (fun _ => rfl)
        | exact st_notB (u := true) (fun _ _ h => h) (fun _ => rfl)
        | exact st_eqB (u := true) (v := true) (fun _ _ h => h) (fun _ _ h => h) (fun _ => rfl)
        | exact st_eqB (u := true) (v := false) (fun _ _ h => h) (fun _ _ h => h) (fun _ => rfl)
        | exact st_notB (u := false) (fun _ _ h => h) (fun _ => rfl)
        | exact st_eqB (u := false) (v := true) (fun _ _ h => h) (fun _ _ h => h) (fun _ => rfl)
        | exact st_eqB (u := false) (v := false) (fun _ _ h => h) (fun _ _ h => h) (fun _ => rfl)
        | exact st_pickAnd (u := true) (v := true) (fun _ _ h => h) (fun _ => fun _ _ h => h) (fun _ => rfl)
        | exact st_pickAnd (u := true) (v := false) (fun _ _ h => h) (fun _ => fun _ _ h => h) (fun _ => rfl)
        | exact st_pickAnd (u := false) (v := false) (fun _ _ h => h) (fun h => nomatch h) (fun _ => rfl)
        | exact st_pickOr (u := true) (v := false) (fun _ _ h => h) (fun h => nomatch h) (fun _ => rfl)
        | exact st_pickOr (u := false) (v := true) (fun _ _ h => h) (fun _ => fun _ _ h => h) (fun _ => rfl)
        | exact st_pickOr (u := false) (v := false) (fun _ _ h => h) (fun _ => fun _ _ h => h) (fun _ => rfl)
    intro v w9 ho hb
    obtain ⟨_, _, _, _, e1, i1⟩ := ho.slot (d := 55) (by simp [dstD])
    obtain ⟨_, _, _, _, e2, i2⟩ := ho.slot (d := 56) (by simp [dstD])
    have e3 : v 57 = .int .i64 0 := ho.slot (d := 57) (by simp [dstD])
    clear ho
    simp only [List.append_eq, List.cons_append, List.nil_append, List.take, List.drop, List.map_cons, List.map_nil, dstD, Option.getD_some, putAll, Act.put, List.setIfInBounds_toArray, List.set_cons_succ, List.set_cons_zero, e1, e2, e3]
    clear e1 e2 e3
    go_upto_region 4 with fail
    obtain ⟨x1, x2, x3⟩ := BoxN.new2 i1 i2 24 24
    have hbb := hb.trans (x3.mono hb.size)
    have V2 := Lib.hid (V1.out.trans (hbb.mono V1.out.size))
    have E2 := Lib.hid (E1.out.below hbb)
    replace YA := Lib.hid (YA.out.up hbb)
    replace YB := Lib.hid (YB.out.up hbb)
    replace YC := Lib.hid (YC.out.up hbb)
    have YQ := Lib.hid x1
    have YR := Lib.hid x2
    clear hb hbb x1 x2 x3 i1 i2 V1 E1
    generalize hsz : w9.heap.size = r1 at *
    generalize (w9.alloc (.cells #[.bool _, .slice _ _ _] 24)).alloc (.cells #[.bool _, .slice _ _ _] 24) = W2 at *
    clear hsz
    have ZM : (cmpI M 0 == 0) = false := by rw [cmp_zero]; exact decide_eq_false hM0
    have HQ : Int.fdiv N M * M + Int.fmod N M = N := by rw [Int.mul_comm]; exact Int.mul_fdiv_add_fmod N M
    have hfs := (floor_size N hM0).2
    have HL : decide ((0 : Int) ≤ cmpI (Int.natAbs (Int.fmod N M) : Int) (Int.natAbs (M) : Int)) = false := cmp_less (by omega)
    by_cases hR : Int.fmod N M = 0
    case' pos =>
      have ZR : (cmpI (Int.fmod N M) 0 != 0) = false := by rw [cmpI_eq hR]; rfl
      refine wp_region_chain [(3, STy.is (.pointer (some ⟨w.heap.size, 0, none⟩))), (4, STy.is (.pointer (some ⟨w.heap.size + 1, 0, none⟩))), (5, STy.is (.pointer (some ⟨w.heap.size + 2, 0, none⟩))), (7, STy.is (.pointer (some ⟨r1, 0, none⟩))), (8, STy.is (.pointer (some ⟨r1 + 1, 0, none⟩))), (9, STy.is (.int .i64 0)),
          (58, STy.is (.int .i64 0)), (59, STy.is (.bool true)), (60, STy.num (M) (20)), (61, STy.is (.int .i64 (cmpI (M) 0))), (62, STy.is (.bool false)), (63, STy.is (.bool false)),
          (64, STy.is (.bool false)), (65, STy.is (.int .i64 0)), (66, STy.is (.bool true)), (67, STy.is (.bool true)), (68, STy.num (Int.fdiv N M) (21)), (69, STy.num (M) (20)),
          (70, STy.num ((Int.fdiv N M) * (M)) (41)), (71, STy.num (Int.fmod N M) (20)), (72, STy.num (((Int.fdiv N M) * (M)) + (Int.fmod N M)) (42)), (73, STy.num (N) (20)), (74, STy.is (.bool true)), (75, STy.is (.bool false)),
          (76, STy.is (.bool false)), (77, STy.num (Int.fmod N M) (20)), (78, STy.is (.int .i64 (cmpI (Int.fmod N M) 0))), (79, STy.is (.bool false)), (80, STy.is (.bool false)), (86, STy.is (.bool false)),
          (87, STy.is (.bool false)), (88, STy.is (.bool false)), (89, STy.num (Int.fmod N M) (20)), (90, STy.num ((Int.natAbs (Int.fmod N M) : Int)) (20)), (91, STy.num (M) (20)), (92, STy.num ((Int.natAbs (M) : Int)) (20)),
          (93, STy.is (.int .i64 (cmpI ((Int.natAbs (Int.fmod N M) : Int)) ((Int.natAbs (M) : Int))))), (94, STy.is (.bool false)), (95, STy.is (.bool false)), (96, STy.is (.bool false))]
          [3, 4, 5, 7, 8, 9] [(64, false), (67, true), (76, false), (80, false), (88, false)] 203 39 (by kernel_rfl) (by kernel_rfl) rfl ⟨fun _ _ h => h, fun _ _ h => h, fun _ _ h => h, fun _ _ h => h, fun _ _ h => h, trivial⟩ ⟨rfl, rfl, rfl, rfl, rfl, rfl, trivial⟩ ?_ ?_ ?_
      · repeat' first
          | exact OpStepsG.nil
          | refine OpStepsG.skip (by rfl) ?_
          | refine OpStepsG.run ?_ ?_
          | exact st_move fun _ _ h => h
          | exact st_assign fun _ _ h => h
          | exact sn_load (fun _ _ h => h) YA.out (fun _ _ h => h)
          | exact sn_load (fun _ _ h => h) YB.out (fun _ _ h => h)
          | exact sn_load (fun _ _ h => h) YC.out (fun _ _ h => h)
          | exact sn_load (fun _ _ h => h) YQ.out (fun _ _ h => h)
          | exact sn_load (fun _ _ h => h) YR.out (fun _ _ h => h)
          | exact sn_add (fun _ _ h => h) (fun _ _ h => h) (by decide) (by decide) (fun _ _ h => h)
          | exact sn_sub (fun _ _ h => h) (fun _ _ h => h) (by decide) (by decide) (fun _ _ h => h)
          | exact sn_mul (fun _ _ h => h) (fun _ _ h => h) (by decide) (by decide) (fun _ _ h => h)
          | exact sn_abs (fun _ _ h => h) (by decide) (fun _ _ h => h)
          | exact sn_cmp (fun _ _ h => h) (fun _ _ h => h) (by decide) (by decide) (fun _ => rfl)
          | exact sn_sign (fun _ _ h => h) (by decide) (fun _ => rfl)
          | exact sn_gcd (fun _ _ h => h) (fun _ _ h => h) E2.out (by decide) (by decide) (fun _ _ h => h)
          | exact sn_put (fun _ _ h => h) E2.out (by decide) (fun _ _ h => h)
          | exact sn_parse (fun _ _ h => h) NL.out (by decide) (fun _ _ h => h)
          | exact sn_pnum (fun _ _ h => h) (fun _ _ h => h)
          | exact sn_perr (fun _ _ h => h) (fun _ => rfl)
          | exact sn_quo (fun _ _ h => h) (fun _ _ h => h)
          | exact sn_rem (fun _ _ h => h) (fun _ _ h => h)
          | exact sn_err (fun _ _ h => h) (fun _ => rfl)
          | exact sn_d00 (fun _ _ h => h) (fun _ => rfl)
          | exact sn_d01 (fun _ _ h => h) (fun _ => rfl)
          | exact sn_d02 (fun _ _ h => h) (fun _ => rfl)
          | exact sn_works E2.out (fun _ => rfl)
          | exact sn_is (fun _ _ h => h) (fun _ _ h => h) HQ (by decide) (by decide) (fun _ => rfl)
          | exact st_eqI (fun _ _ h => h) rfl (fun _ => congrArg Value.bool ZM)
          | exact st_neqI (fun _ _ h => h) rfl (fun _ => congrArg Value.bool ZM)
          | exact st_neqI (fun _ _ h => h) (fun _ _ h => h) (fun _ => congrArg Value.bool ZM)
          | exact st_eqI (fun _ _ h => h) rfl (fun _ => congrArg Value.bool ZR)
          | exact st_neqI (fun _ _ h => h) rfl (fun _ => congrArg Value.bool ZR)
          | exact st_neqI (fun _ _ h => h) (fun _ _ h => h) (fun _ => congrArg Value.bool ZR)
          | exact st_geqI (fun _ _ h => h) rfl (fun _ => congrArg Value.bool HL)
          | exact st_gtrI (fun _ _ h => h) rfl (fun _ => congrArg Value.bool HL)
          | exact st_eqE (x := 0) (y := 0) (fun _ _ h => h) rfl (fun _ => rfl)
          | exact st_eqE (x := 20) (y := 0) (fun _ _ h => h) rfl (fun _ => rfl)
          | exact st_neqE (x := 0) (y := 0) (fun _ _ h => h) rfl (fun _ => rfl)
          | exact st_notB (u := true) (fun _ _ h => h) (fun _ => rfl)
          | exact st_eqB (u := true) (v := true) (fun _ _ h => h) (fun _ _ h => h) (fun _ => rfl)
          | exact st_eqB (u := true) (v := false) (fun _ _ h => h) (fun _ _ h => h) (fun _ => rfl)
          | exact st_notB (u := false) (fun _ _ h => h) (fun _ => rfl)
          | exact st_eqB (u := false) (v := true) (fun _ _ h => h) (fun _ _ h => h) (fun _ => rfl)
          | exact st_eqB (u := false) (v := false) (fun _ _ h => h) (fun _ _ h => h) (fun _ => rfl)
          | exact st_pickAnd (u := true) (v := true) (fun _ _ h => h) (fun _ => fun _ _ h => h) (fun _ => rfl)
          | exact st_pickAnd (u := true) (v := false) (fun _ _ h => h) (fun _ => fun _ _ h => h) (fun _ => rfl)
          | exact st_pickAnd (u := false) (v := false) (fun _ _ h => h) (fun h => nomatch h) (fun _ => rfl)
          | exact st_pickOr (u := true) (v := false) (fun _ _ h => h) (fun h => nomatch h) (fun _ => rfl)
          | exact st_pickOr (u := false) (v := true) (fun _ _ h => h) (fun _ => fun _ _ h => h) (fun _ => rfl)
          | exact st_pickOr (u := false) (v := false) (fun _ _ h => h) (fun _ => fun _ _ h => h) (fun _ => rfl)
      · repeat' first
          | exact AllocsOk.nil
          | refine AllocsOk.cons ?_ ?_
          | exact fun T h => nomatch h
      intro v w9 ho _ hb
      have e1 : v 64 = .bool false := ho.slot (d := 64) (by simp [dstD])
      have e2 : v 96 = .bool false := ho.slot (d := 96) (by simp [dstD])
      clear ho
      simp only [List.append_eq, List.cons_append, List.nil_append, List.take, List.drop, List.map_cons, List.map_nil, dstD, Option.getD_some, putAll, Act.put, List.setIfInBounds_toArray, List.set_cons_succ, List.set_cons_zero, e1, e2]
      clear e1 e2
      go_upto_region 6 with fail
      have V3 := Lib.hid (V2.out.trans (hb.mono V2.out.size))
      have E3 := Lib.hid (E2.out.below hb)
      replace YA := Lib.hid (YA.out.up hb)
      replace YB := Lib.hid (YB.out.up hb)
      replace YC := Lib.hid (YC.out.up hb)
      clear hb V2 E2 YQ YR
    case' neg =>
      have ZR : (cmpI (Int.fmod N M) 0 != 0) = true := by
        have := cmp_zero (N := Int.fmod N M)
        rw [decide_eq_false hR] at this
        rw [bne, this]; rfl
      have ZS := cmp_signs_same (fmod_sign N hM0 hR)
      refine wp_region_chain ((3, STy.is (.pointer (some ⟨w.heap.size, 0, none⟩))) :: (4, STy.is (.pointer (some ⟨w.heap.size + 1, 0, none⟩))) :: (5, STy.is (.pointer (some ⟨w.heap.size + 2, 0, none⟩))) :: (7, STy.is (.pointer (some ⟨r1, 0, none⟩))) :: (8, STy.is (.pointer (some ⟨r1 + 1, 0, none⟩))) :: (9, STy.is (.int .i64 0)) ::
          (58, STy.is (.int .i64 0)) :: (59, STy.is (.bool true)) :: (60, STy.num (M) (20)) :: (61, STy.is (.int .i64 (cmpI (M) 0))) :: (62, STy.is (.bool false)) :: (63, STy.is (.bool false)) ::
          (64, STy.is (.bool false)) :: (65, STy.is (.int .i64 0)) :: (66, STy.is (.bool true)) :: (67, STy.is (.bool true)) :: (68, STy.num (Int.fdiv N M) (21)) :: (69, STy.num (M) (20)) ::
          (70, STy.num ((Int.fdiv N M) * (M)) (41)) :: (71, STy.num (Int.fmod N M) (20)) :: (72, STy.num (((Int.fdiv N M) * (M)) + (Int.fmod N M)) (42)) :: (73, STy.num (N) (20)) :: (74, STy.is (.bool true)) :: (75, STy.is (.bool false)) ::
          (76, STy.is (.bool false)) :: (77, STy.num (Int.fmod N M) (20)) :: (78, STy.is (.int .i64 (cmpI (Int.fmod N M) 0))) :: (79, STy.is (.bool true)) :: (80, STy.is (.bool true)) :: (81, STy.num (Int.fmod N M) (20)) ::
          (82, STy.is (.int .i64 (cmpI (Int.fmod N M) 0))) :: (83, STy.num (M) (20)) :: (84, STy.is (.int .i64 (cmpI (M) 0))) :: (85, STy.is (.bool false)) :: (86, STy.is (.bool false)) :: (87, STy.is (.bool false)) ::
          (88, STy.is (.bool false)) :: (89, STy.num (Int.fmod N M) (20)) :: (90, STy.num ((Int.natAbs (Int.fmod N M) : Int)) (20)) :: (91, STy.num (M) (20)) :: (92, STy.num ((Int.natAbs (M) : Int)) (20)) :: (93, STy.is (.int .i64 (cmpI ((Int.natAbs (Int.fmod N M) : Int)) ((Int.natAbs (M) : Int))))) ::
          (94, STy.is (.bool false)) :: (95, STy.is (.bool false)) :: (96, STy.is (.bool false)) :: [])
          [3, 4, 5, 7, 8, 9] [(64, false), (67, true), (76, false), (80, true), (88, false)] 203 39 (by kernel_rfl) (by kernel_rfl) rfl ⟨fun _ _ h => h, fun _ _ h => h, fun _ _ h => h, fun _ _ h => h, fun _ _ h => h, trivial⟩ ⟨rfl, rfl, rfl, rfl, rfl, rfl, trivial⟩ ?_ ?_ ?_
      · repeat' first
          | exact OpStepsG.nil
          | refine OpStepsG.skip (by rfl) ?_
          | refine OpStepsG.run ?_ ?_
          | exact st_move fun _ _ h => h
          | exact st_assign fun _ _ h => h
          | exact sn_load (fun _ _ h => h) YA.out (fun _ _ h => h)
          | exact sn_load (fun _ _ h => h) YB.out (fun _ _ h => h)
          | exact sn_load (fun _ _ h => h) YC.out (fun _ _ h => h)
          | exact sn_load (fun _ _ h => h) YQ.out (fun _ _ h => h)
          | exact sn_load (fun _ _ h => h) YR.out (fun _ _ h => h)
          | exact sn_add (fun _ _ h => h) (fun _ _ h => h) (by decide) (by decide) (fun _ _ h => h)
          | exact sn_sub (fun _ _ h => h) (fun _ _ h => h) (by decide) (by decide) (fun _ _ h => h)
          | exact sn_mul (fun _ _ h => h) (fun _ _ h => h) (by decide) (by decide) (fun _ _ h => h)
          | exact sn_abs (fun _ _ h => h) (by decide) (fun _ _ h => h)
          | exact sn_cmp (fun _ _ h => h) (fun _ _ h => h) (by decide) (by decide) (fun _ => rfl)
          | exact sn_sign (fun _ _ h => h) (by decide) (fun _ => rfl)
          | exact sn_gcd (fun _ _ h => h) (fun _ _ h => h) E2.out (by decide) (by decide) (fun _ _ h => h)
          | exact sn_put (fun _ _ h => h) E2.out (by decide) (fun _ _ h => h)
          | exact sn_parse (fun _ _ h => h) NL.out (by decide) (fun _ _ h => h)
          | exact sn_pnum (fun _ _ h => h) (fun _ _ h => h)
          | exact sn_perr (fun _ _ h => h) (fun _ => rfl)
          | exact sn_quo (fun _ _ h => h) (fun _ _ h => h)
          | exact sn_rem (fun _ _ h => h) (fun _ _ h => h)
          | exact sn_err (fun _ _ h => h) (fun _ => rfl)
          | exact sn_d00 (fun _ _ h => h) (fun _ => rfl)
          | exact sn_d01 (fun _ _ h => h) (fun _ => rfl)
          | exact sn_d02 (fun _ _ h => h) (fun _ => rfl)
          | exact sn_works E2.out (fun _ => rfl)
          | exact sn_is (fun _ _ h => h) (fun _ _ h => h) HQ (by decide) (by decide) (fun _ => rfl)
          | exact st_eqI (fun _ _ h => h) rfl (fun _ => congrArg Value.bool ZM)
          | exact st_neqI (fun _ _ h => h) rfl (fun _ => congrArg Value.bool ZM)
          | exact st_neqI (fun _ _ h => h) (fun _ _ h => h) (fun _ => congrArg Value.bool ZM)
          | exact st_eqI (fun _ _ h => h) rfl (fun _ => congrArg Value.bool ZR)
          | exact st_neqI (fun _ _ h => h) rfl (fun _ => congrArg Value.bool ZR)
          | exact st_neqI (fun _ _ h => h) (fun _ _ h => h) (fun _ => congrArg Value.bool ZR)
          | exact st_eqI (fun _ _ h => h) rfl (fun _ => congrArg Value.bool ZS)
          | exact st_neqI (fun _ _ h => h) rfl (fun _ => congrArg Value.bool ZS)
          | exact st_neqI (fun _ _ h => h) (fun _ _ h => h) (fun _ => congrArg Value.bool ZS)
          | exact st_geqI (fun _ _ h => h) rfl (fun _ => congrArg Value.bool HL)
          | exact st_gtrI (fun _ _ h => h) rfl (fun _ => congrArg Value.bool HL)
          | exact st_eqE (x := 0) (y := 0) (fun _ _ h => h) rfl (fun _ => rfl)
          | exact st_eqE (x := 20) (y := 0) (fun _ _ h => h) rfl (fun _ => rfl)
          | exact st_neqE (x := 0) (y := 0) (fun _ _ h => h) rfl (fun _ => rfl)
          | exact st_notB (u := true) (fun _ _ h => h) (fun _ => rfl)
          | exact st_eqB (u := true) (v := true) (fun _ _ h => h) (fun _ _ h => h) (fun _ => rfl)
          | exact st_eqB (u := true) (v := false) (fun _ _ h => h) (fun _ _ h => h) (fun _ => rfl)
          | exact st_notB (u := false) (fun _ _ h => h) (fun _ => rfl)
          | exact st_eqB (u := false) (v := true) (fun _ _ h => h) (fun _ _ h => h) (fun _ => rfl)
          | exact st_eqB (u := false) (v := false) (fun _ _ h => h) (fun _ _ h => h) (fun _ => rfl)
          | exact st_pickAnd (u := true) (v := true) (fun _ _ h => h) (fun _ => fun _ _ h => h) (fun _ => rfl)
          | exact st_pickAnd (u := true) (v := false) (fun _ _ h => h) (fun _ => fun _ _ h => h) (fun _ => rfl)
          | exact st_pickAnd (u := false) (v := false) (fun _ _ h => h) (fun h => nomatch h) (fun _ => rfl)
          | exact st_pickOr (u := true) (v := false) (fun _ _ h => h) (fun h => nomatch h) (fun _ => rfl)
          | exact st_pickOr (u := false) (v := true) (fun _ _ h => h) (fun _ => fun _ _ h => h) (fun _ => rfl)
          | exact st_pickOr (u := false) (v := false) (fun _ _ h => h) (fun _ => fun _ _ h => h) (fun _ => rfl)
      · repeat' first
          | exact AllocsOk.nil
          | refine AllocsOk.cons ?_ ?_
          | exact fun T h => nomatch h
      intro v w9 ho _ hb
      have e1 : v 64 = .bool false := ho.slot (d := 64) (by simp [dstD])
      have e2 : v 96 = .bool false := ho.slot (d := 96) (by simp [dstD])
      clear ho
      simp only [List.append_eq, List.cons_append, List.nil_append, List.take, List.drop, List.map_cons, List.map_nil, dstD, Option.getD_some, putAll, Act.put, List.setIfInBounds_toArray, List.set_cons_succ, List.set_cons_zero, e1, e2]
      clear e1 e2
      go_upto_region 6 with fail
      have V3 := Lib.hid (V2.out.trans (hb.mono V2.out.size))
      have E3 := Lib.hid (E2.out.below hb)
      replace YA := Lib.hid (YA.out.up hb)
      replace YB := Lib.hid (YB.out.up hb)
      replace YC := Lib.hid (YC.out.up hb)
      clear hb V2 E2 YQ YR
  all_goals
    have F1 : N * (M + K) = N * M + N * K := Int.mul_add _ _ _
    have F2 : N * M = M * N := Int.mul_comm _ _
    have F3 : N + M - M = N := Int.add_sub_cancel _ _
    have F4 : (cmpI N M != cmpI N M) = false := bne_self_eq_false _
    have F5 : IntKind.i64.wrap (-(cmpI M N)) = cmpI N M := by
      rw [cmpI_swap N M, Int.neg_neg]
      unfold cmpI
      split
      · rfl
      · split <;> rfl
    refine wp_region_chain ((3, STy.is (.pointer (some ⟨w.heap.size, 0, none⟩))) :: (4, STy.is (.pointer (some ⟨w.heap.size + 1, 0, none⟩))) :: (5, STy.is (.pointer (some ⟨w.heap.size + 2, 0, none⟩))) :: (98, STy.num (N) (20)) :: (99, STy.num (M) (20)) :: (100, STy.num (K) (20)) ::
        (101, STy.num ((M) + (K)) (21)) :: (102, STy.num ((N) * ((M) + (K))) (41)) :: (103, STy.num (N) (20)) :: (104, STy.num (M) (20)) :: (105, STy.num ((N) * (M)) (40)) :: (106, STy.num (N) (20)) ::
        (107, STy.num (K) (20)) :: (108, STy.num ((N) * (K)) (40)) :: (109, STy.num (((N) * (M)) + ((N) * (K))) (41)) :: (110, STy.is (.bool true)) :: (111, STy.is (.bool false)) :: (112, STy.is (.bool false)) ::
        (113, STy.num (N) (20)) :: (114, STy.num (M) (20)) :: (115, STy.num ((N) * (M)) (40)) :: (116, STy.num (M) (20)) :: (117, STy.num (N) (20)) :: (118, STy.num ((M) * (N)) (40)) ::
        (119, STy.is (.bool true)) :: (120, STy.is (.bool false)) :: (121, STy.is (.bool false)) :: (122, STy.is (.bool false)) :: (123, STy.num (N) (20)) :: (124, STy.num (M) (20)) ::
        (125, STy.num ((N) + (M)) (21)) :: (126, STy.num (M) (20)) :: (127, STy.num (((N) + (M)) - (M)) (22)) :: (128, STy.num (N) (20)) :: (129, STy.is (.bool true)) :: (130, STy.is (.bool false)) ::
        (131, STy.is (.bool false)) :: (132, STy.is (.bool false)) :: (133, STy.num (N) (20)) :: (134, STy.num (M) (20)) :: (135, STy.is (.int .i64 (cmpI (N) (M)))) :: (136, STy.num (M) (20)) ::
        (137, STy.num (N) (20)) :: (138, STy.is (.int .i64 (cmpI (M) (N)))) :: (139, STy.is (.int .i64 (cmpI N M))) :: (140, STy.is (.bool false)) :: [])
        [3, 4, 5] [(112, false), (122, false), (132, false)] 203 43 (by kernel_rfl) (by kernel_rfl) rfl ⟨fun _ _ h => h, fun _ _ h => h, fun _ _ h => h, trivial⟩ ⟨rfl, rfl, rfl, trivial⟩ ?_ ?_ ?_
    · repeat' first
        | exact OpStepsG.nil
        | refine OpStepsG.skip (by rfl) ?_
        | refine OpStepsG.run ?_ ?_
        | exact st_move fun _ _ h => h
        | exact st_assign fun _ _ h => h
        | exact sn_load (fun _ _ h => h) YA.out (fun _ _ h => h)
        | exact sn_load (fun _ _ h => h) YB.out (fun _ _ h => h)
        | exact sn_load (fun _ _ h => h) YC.out (fun _ _ h => h)
        | exact sn_add (fun _ _ h => h) (fun _ _ h => h) (by decide) (by decide) (fun _ _ h => h)
        | exact sn_sub (fun _ _ h => h) (fun _ _ h => h) (by decide) (by decide) (fun _ _ h => h)
        | exact sn_mul (fun _ _ h => h) (fun _ _ h => h) (by decide) (by decide) (fun _ _ h => h)
        | exact sn_abs (fun _ _ h => h) (by decide) (fun _ _ h => h)
        | exact sn_cmp (fun _ _ h => h) (fun _ _ h => h) (by decide) (by decide) (fun _ => rfl)
        | exact sn_sign (fun _ _ h => h) (by decide) (fun _ => rfl)
        | exact sn_gcd (fun _ _ h => h) (fun _ _ h => h) E3.out (by decide) (by decide) (fun _ _ h => h)
        | exact sn_put (fun _ _ h => h) E3.out (by decide) (fun _ _ h => h)
        | exact sn_parse (fun _ _ h => h) NL.out (by decide) (fun _ _ h => h)
        | exact sn_pnum (fun _ _ h => h) (fun _ _ h => h)
        | exact sn_perr (fun _ _ h => h) (fun _ => rfl)
        | exact sn_quo (fun _ _ h => h) (fun _ _ h => h)
        | exact sn_rem (fun _ _ h => h) (fun _ _ h => h)
        | exact sn_err (fun _ _ h => h) (fun _ => rfl)
        | exact sn_d00 (fun _ _ h => h) (fun _ => rfl)
        | exact sn_d01 (fun _ _ h => h) (fun _ => rfl)
        | exact sn_d02 (fun _ _ h => h) (fun _ => rfl)
        | exact sn_works E3.out (fun _ => rfl)
        | exact sn_is (fun _ _ h => h) (fun _ _ h => h) F1 (by decide) (by decide) (fun _ => rfl)
        | exact sn_is (fun _ _ h => h) (fun _ _ h => h) F2 (by decide) (by decide) (fun _ => rfl)
        | exact sn_is (fun _ _ h => h) (fun _ _ h => h) F3 (by decide) (by decide) (fun _ => rfl)
        | exact st_eqI (fun _ _ h => h) rfl (fun _ => congrArg Value.bool F4)
        | exact st_neqI (fun _ _ h => h) rfl (fun _ => congrArg Value.bool F4)
        | exact st_neqI (fun _ _ h => h) (fun _ _ h => h) (fun _ => congrArg Value.bool F4)
        | exact st_eqE (x := 0) (y := 0) (fun _ _ h => h) rfl (fun _ => rfl)
        | exact st_eqE (x := 20) (y := 0) (fun _ _ h => h) rfl (fun _ => rfl)
        | exact st_neqE (x := 0) (y := 0) (fun _ _ h => h) rfl (fun _ => rfl)
        | exact st_notB (u := true) (fun _ _ h => h) (fun _ => rfl)
        | exact st_eqB (u := true) (v := true) (fun _ _ h => h) (fun _ _ h => h) (fun _ => rfl)
        | exact st_eqB (u := true) (v := false) (fun _ _ h => h) (fun _ _ h => h) (fun _ => rfl)
        | exact st_notB (u := false) (fun _ _ h => h) (fun _ => rfl)
        | exact st_eqB (u := false) (v := true) (fun _ _ h => h) (fun _ _ h => h) (fun _ => rfl)
        | exact st_eqB (u := false) (v := false) (fun _ _ h => h) (fun _ _ h => h) (fun _ => rfl)
        | exact st_pickAnd (u := true) (v := true) (fun _ _ h => h) (fun _ => fun _ _ h => h) (fun _ => rfl)
        | exact st_pickAnd (u := true) (v := false) (fun _ _ h => h) (fun _ => fun _ _ h => h) (fun _ => rfl)
        | exact st_pickAnd (u := false) (v := false) (fun _ _ h => h) (fun h => nomatch h) (fun _ => rfl)
        | exact st_pickOr (u := true) (v := false) (fun _ _ h => h) (fun h => nomatch h) (fun _ => rfl)
        | exact st_pickOr (u := false) (v := true) (fun _ _ h => h) (fun _ => fun _ _ h => h) (fun _ => rfl)
        | exact st_pickOr (u := false) (v := false) (fun _ _ h => h) (fun _ => fun _ _ h => h) (fun _ => rfl)
        | exact st_negI (fun _ _ h => h) F5 (fun _ => rfl)
    · repeat' first
        | exact AllocsOk.nil
        | refine AllocsOk.cons ?_ ?_
        | exact fun T h => nomatch h
    intro v w9 ho _ hb
    have e1 : v 132 = .bool false := ho.slot (d := 132) (by simp [dstD])
    have e2 : v 140 = .bool false := ho.slot (d := 140) (by simp [dstD])
    clear ho
    simp only [List.append_eq, List.cons_append, List.nil_append, List.take, List.drop, List.map_cons, List.map_nil, dstD, Option.getD_some, putAll, Act.put, List.setIfInBounds_toArray, List.set_cons_succ, List.set_cons_zero, e1, e2]
    clear e1 e2
    go_upto_region 8 with fail
    have V4 := Lib.hid (V3.out.trans (hb.mono V3.out.size))
    have E4 := Lib.hid (E3.out.below hb)
    replace YA := Lib.hid (YA.out.up hb)
    replace YB := Lib.hid (YB.out.up hb)
    clear hb V3 E3 YC F1 F2 F3 F4 F5
    refine wp_region_flow [(3, STy.is (.pointer (some ⟨w.heap.size, 0, none⟩))), (143, STy.num (N) (20)), (144, STy.txt (putI (N))), (145, STy.numE N 20), (142, STy.numE N 20), (146, STy.num (N) (20)),
        (147, STy.is (.int .i64 0))]
        [3] [] 203 6 (by kernel_rfl) rfl trivial ⟨rfl, trivial⟩ ?_ ?_
    · repeat' first
        | exact OpStepsG.nil
        | refine OpStepsG.skip (by rfl) ?_
        | refine OpStepsG.run ?_ ?_
        | exact st_move fun _ _ h => h
        | exact st_assign fun _ _ h => h
        | exact sn_load (fun _ _ h => h) YA.out (fun _ _ h => h)
        | exact sn_add (fun _ _ h => h) (fun _ _ h => h) (by decide) (by decide) (fun _ _ h => h)
        | exact sn_sub (fun _ _ h => h) (fun _ _ h => h) (by decide) (by decide) (fun _ _ h => h)
        | exact sn_mul (fun _ _ h => h) (fun _ _ h => h) (by decide) (by decide) (fun _ _ h => h)
        | exact sn_abs (fun _ _ h => h) (by decide) (fun _ _ h => h)
        | exact sn_cmp (fun _ _ h => h) (fun _ _ h => h) (by decide) (by decide) (fun _ => rfl)
        | exact sn_sign (fun _ _ h => h) (by decide) (fun _ => rfl)
        | exact sn_gcd (fun _ _ h => h) (fun _ _ h => h) E4.out (by decide) (by decide) (fun _ _ h => h)
        | exact sn_put (fun _ _ h => h) E4.out (by decide) (fun _ _ h => h)
        | exact sn_parse (fun _ _ h => h) NL.out (by decide) (fun _ _ h => h)
        | exact sn_pnum (fun _ _ h => h) (fun _ _ h => h)
        | exact sn_perr (fun _ _ h => h) (fun _ => rfl)
        | exact sn_quo (fun _ _ h => h) (fun _ _ h => h)
        | exact sn_rem (fun _ _ h => h) (fun _ _ h => h)
        | exact sn_err (fun _ _ h => h) (fun _ => rfl)
        | exact sn_d00 (fun _ _ h => h) (fun _ => rfl)
        | exact sn_d01 (fun _ _ h => h) (fun _ => rfl)
        | exact sn_d02 (fun _ _ h => h) (fun _ => rfl)
        | exact sn_works E4.out (fun _ => rfl)
        | exact st_eqE (x := 0) (y := 0) (fun _ _ h => h) rfl (fun _ => rfl)
        | exact st_eqE (x := 20) (y := 0) (fun _ _ h => h) rfl (fun _ => rfl)
        | exact st_neqE (x := 0) (y := 0) (fun _ _ h => h) rfl (fun _ => rfl)
        | exact st_notB (u := true) (fun _ _ h => h) (fun _ => rfl)
        | exact st_eqB (u := true) (v := true) (fun _ _ h => h) (fun _ _ h => h) (fun _ => rfl)
        | exact st_eqB (u := true) (v := false) (fun _ _ h => h) (fun _ _ h => h) (fun _ => rfl)
        | exact st_notB (u := false) (fun _ _ h => h) (fun _ => rfl)
        | exact st_eqB (u := false) (v := true) (fun _ _ h => h) (fun _ _ h => h) (fun _ => rfl)
        | exact st_eqB (u := false) (v := false) (fun _ _ h => h) (fun _ _ h => h) (fun _ => rfl)
        | exact st_pickAnd (u := true) (v := true) (fun _ _ h => h) (fun _ => fun _ _ h => h) (fun _ => rfl)
        | exact st_pickAnd (u := true) (v := false) (fun _ _ h => h) (fun _ => fun _ _ h => h) (fun _ => rfl)
        | exact st_pickAnd (u := false) (v := false) (fun _ _ h => h) (fun h => nomatch h) (fun _ => rfl)
        | exact st_pickOr (u := true) (v := false) (fun _ _ h => h) (fun h => nomatch h) (fun _ => rfl)
        | exact st_pickOr (u := false) (v := true) (fun _ _ h => h) (fun _ => fun _ _ h => h) (fun _ => rfl)
        | exact st_pickOr (u := false) (v := false) (fun _ _ h => h) (fun _ => fun _ _ h => h) (fun _ => rfl)
    intro v w9 ho hb
    obtain ⟨sv, Av, nv, cv, e1, i1⟩ := ho.slot (d := 146) (by simp [dstD])
    have e2 : v 147 = .int .i64 0 := ho.slot (d := 147) (by simp [dstD])
    clear ho
    simp only [List.append_eq, List.cons_append, List.nil_append, List.take, List.drop, List.map_cons, List.map_nil, dstD, Option.getD_some, putAll, Act.put, List.setIfInBounds_toArray, List.set_cons_succ, List.set_cons_zero, e1, e2]
    clear e1 e2
    go_upto_region 9 with fail
    have x1 := BoxN.new i1 24
    have hbb := hb.trans ((below_new w9 (.cells #[.bool sv, .slice Av nv cv] 24)).mono hb.size)
    have V5 := Lib.hid (V4.out.trans (hbb.mono V4.out.size))
    have E5 := Lib.hid (E4.out.below hbb)
    replace YA := Lib.hid (YA.out.up hbb)
    replace YB := Lib.hid (YB.out.up hbb)
    have YP := Lib.hid x1
    clear hb hbb x1 i1 V4 E4
    generalize hsz : w9.heap.size = r2 at *
    generalize w9.alloc (.cells #[.bool sv, .slice Av nv cv] 24) = W5 at *
    clear hsz
    refine wp_region_flow [(3, STy.is (.pointer (some ⟨w.heap.size, 0, none⟩))), (10, STy.is (.pointer (some ⟨r2, 0, none⟩))), (11, STy.is (.int .i64 0)), (148, STy.is (.int .i64 0)), (149, STy.is (.bool false)), (150, STy.is (.bool false)),
        (151, STy.num (N) (20)), (152, STy.num (N) (20)), (153, STy.is (.bool true)), (154, STy.is (.bool false)), (155, STy.is (.bool false))]
        [3, 10, 11] [(150, false)] 203 8 (by kernel_rfl) rfl ⟨fun _ _ h => h, trivial⟩ ⟨rfl, rfl, rfl, trivial⟩ ?_ ?_
    · repeat' first
        | exact OpStepsG.nil
        | refine OpStepsG.skip (by rfl) ?_
        | refine OpStepsG.run ?_ ?_
        | exact st_move fun _ _ h => h
        | exact st_assign fun _ _ h => h
        | exact sn_load (fun _ _ h => h) YA.out (fun _ _ h => h)
        | exact sn_load (fun _ _ h => h) YP.out (fun _ _ h => h)
        | exact sn_add (fun _ _ h => h) (fun _ _ h => h) (by decide) (by decide) (fun _ _ h => h)
        | exact sn_sub (fun _ _ h => h) (fun _ _ h => h) (by decide) (by decide) (fun _ _ h => h)
        | exact sn_mul (fun _ _ h => h) (fun _ _ h => h) (by decide) (by decide) (fun _ _ h => h)
        | exact sn_abs (fun _ _ h => h) (by decide) (fun _ _ h => h)
        | exact sn_cmp (fun _ _ h => h) (fun _ _ h => h) (by decide) (by decide) (fun _ => rfl)
        | exact sn_sign (fun _ _ h => h) (by decide) (fun _ => rfl)
        | exact sn_gcd (fun _ _ h => h) (fun _ _ h => h) E5.out (by decide) (by decide) (fun _ _ h => h)
        | exact sn_put (fun _ _ h => h) E5.out (by decide) (fun _ _ h => h)
        | exact sn_parse (fun _ _ h => h) NL.out (by decide) (fun _ _ h => h)
        | exact sn_pnum (fun _ _ h => h) (fun _ _ h => h)
        | exact sn_perr (fun _ _ h => h) (fun _ => rfl)
        | exact sn_quo (fun _ _ h => h) (fun _ _ h => h)
        | exact sn_rem (fun _ _ h => h) (fun _ _ h => h)
        | exact sn_err (fun _ _ h => h) (fun _ => rfl)
        | exact sn_d00 (fun _ _ h => h) (fun _ => rfl)
        | exact sn_d01 (fun _ _ h => h) (fun _ => rfl)
        | exact sn_d02 (fun _ _ h => h) (fun _ => rfl)
        | exact sn_works E5.out (fun _ => rfl)
        | exact sn_is (fun _ _ h => h) (fun _ _ h => h) rfl (by decide) (by decide) (fun _ => rfl)
        | exact st_eqE (x := 0) (y := 0) (fun _ _ h => h) rfl (fun _ => rfl)
        | exact st_eqE (x := 20) (y := 0) (fun _ _ h => h) rfl (fun _ => rfl)
        | exact st_neqE (x := 0) (y := 0) (fun _ _ h => h) rfl (fun _ => rfl)
        | exact st_notB (u := true) (fun _ _ h => h) (fun _ => rfl)
        | exact st_eqB (u := true) (v := true) (fun _ _ h => h) (fun _ _ h => h) (fun _ => rfl)
        | exact st_eqB (u := true) (v := false) (fun _ _ h => h) (fun _ _ h => h) (fun _ => rfl)
        | exact st_notB (u := false) (fun _ _ h => h) (fun _ => rfl)
        | exact st_eqB (u := false) (v := true) (fun _ _ h => h) (fun _ _ h => h) (fun _ => rfl)
        | exact st_eqB (u := false) (v := false) (fun _ _ h => h) (fun _ _ h => h) (fun _ => rfl)
        | exact st_pickAnd (u := true) (v := true) (fun _ _ h => h) (fun _ => fun _ _ h => h) (fun _ => rfl)
        | exact st_pickAnd (u := true) (v := false) (fun _ _ h => h) (fun _ => fun _ _ h => h) (fun _ => rfl)
        | exact st_pickAnd (u := false) (v := false) (fun _ _ h => h) (fun h => nomatch h) (fun _ => rfl)
        | exact st_pickOr (u := true) (v := false) (fun _ _ h => h) (fun h => nomatch h) (fun _ => rfl)
        | exact st_pickOr (u := false) (v := true) (fun _ _ h => h) (fun _ => fun _ _ h => h) (fun _ => rfl)
        | exact st_pickOr (u := false) (v := false) (fun _ _ h => h) (fun _ => fun _ _ h => h) (fun _ => rfl)
    intro v w9 ho hb
    have e1 : v 155 = .bool false := ho.slot (d := 155) (by simp [dstD])
    clear ho
    simp only [List.append_eq, List.cons_append, List.nil_append, List.take, List.drop, List.map_cons, List.map_nil, dstD, Option.getD_some, putAll, Act.put, List.setIfInBounds_toArray, List.set_cons_succ, List.set_cons_zero, e1]
    clear e1
    go_upto_region 11 with fail
    have V6 := Lib.hid (V5.out.trans (hb.mono V5.out.size))
    have E6 := Lib.hid (E5.out.below hb)
    replace YA := Lib.hid (YA.out.up hb)
    replace YB := Lib.hid (YB.out.up hb)
    clear hb V5 E5 YP
    refine wp_region_flow [(3, STy.is (.pointer (some ⟨w.heap.size, 0, none⟩))), (4, STy.is (.pointer (some ⟨w.heap.size + 1, 0, none⟩))), (156, STy.num (N) (20)), (157, STy.num (M) (20)), (158, STy.num (gcdI (Int.natAbs (N) : Int) (Int.natAbs (M) : Int)) (40))]
        [3, 4] [] 203 3 (by kernel_rfl) rfl trivial ⟨rfl, rfl, trivial⟩ ?_ ?_
    · repeat' first
        | exact OpStepsG.nil
        | refine OpStepsG.skip (by rfl) ?_
        | refine OpStepsG.run ?_ ?_
        | exact st_move fun _ _ h => h
        | exact st_assign fun _ _ h => h
        | exact sn_load (fun _ _ h => h) YA.out (fun _ _ h => h)
        | exact sn_load (fun _ _ h => h) YB.out (fun _ _ h => h)
        | exact sn_add (fun _ _ h => h) (fun _ _ h => h) (by decide) (by decide) (fun _ _ h => h)
        | exact sn_sub (fun _ _ h => h) (fun _ _ h => h) (by decide) (by decide) (fun _ _ h => h)
        | exact sn_mul (fun _ _ h => h) (fun _ _ h => h) (by decide) (by decide) (fun _ _ h => h)
        | exact sn_abs (fun _ _ h => h) (by decide) (fun _ _ h => h)
        | exact sn_cmp (fun _ _ h => h) (fun _ _ h => h) (by decide) (by decide) (fun _ => rfl)
        | exact sn_sign (fun _ _ h => h) (by decide) (fun _ => rfl)
        | exact sn_gcd (fun _ _ h => h) (fun _ _ h => h) E6.out (by decide) (by decide) (fun _ _ h => h)
        | exact sn_put (fun _ _ h => h) E6.out (by decide) (fun _ _ h => h)
        | exact sn_parse (fun _ _ h => h) NL.out (by decide) (fun _ _ h => h)
        | exact sn_pnum (fun _ _ h => h) (fun _ _ h => h)
        | exact sn_perr (fun _ _ h => h) (fun _ => rfl)
        | exact sn_quo (fun _ _ h => h) (fun _ _ h => h)
        | exact sn_rem (fun _ _ h => h) (fun _ _ h => h)
        | exact sn_err (fun _ _ h => h) (fun _ => rfl)
        | exact sn_d00 (fun _ _ h => h) (fun _ => rfl)
        | exact sn_d01 (fun _ _ h => h) (fun _ => rfl)
        | exact sn_d02 (fun _ _ h => h) (fun _ => rfl)
        | exact sn_works E6.out (fun _ => rfl)
        | exact st_eqE (x := 0) (y := 0) (fun _ _ h => h) rfl (fun _ => rfl)
        | exact st_eqE (x := 20) (y := 0) (fun _ _ h => h) rfl (fun _ => rfl)
        | exact st_neqE (x := 0) (y := 0) (fun _ _ h => h) rfl (fun _ => rfl)
        | exact st_notB (u := true) (fun _ _ h => h) (fun _ => rfl)
        | exact st_eqB (u := true) (v := true) (fun _ _ h => h) (fun _ _ h => h) (fun _ => rfl)
        | exact st_eqB (u := true) (v := false) (fun _ _ h => h) (fun _ _ h => h) (fun _ => rfl)
        | exact st_notB (u := false) (fun _ _ h => h) (fun _ => rfl)
        | exact st_eqB (u := false) (v := true) (fun _ _ h => h) (fun _ _ h => h) (fun _ => rfl)
        | exact st_eqB (u := false) (v := false) (fun _ _ h => h) (fun _ _ h => h) (fun _ => rfl)
        | exact st_pickAnd (u := true) (v := true) (fun _ _ h => h) (fun _ => fun _ _ h => h) (fun _ => rfl)
        | exact st_pickAnd (u := true) (v := false) (fun _ _ h => h) (fun _ => fun _ _ h => h) (fun _ => rfl)
        | exact st_pickAnd (u := false) (v := false) (fun _ _ h => h) (fun h => nomatch h) (fun _ => rfl)
        | exact st_pickOr (u := true) (v := false) (fun _ _ h => h) (fun h => nomatch h) (fun _ => rfl)
        | exact st_pickOr (u := false) (v := true) (fun _ _ h => h) (fun _ => fun _ _ h => h) (fun _ => rfl)
        | exact st_pickOr (u := false) (v := false) (fun _ _ h => h) (fun _ => fun _ _ h => h) (fun _ => rfl)
    intro v w9 ho hb
    obtain ⟨sv, Av, nv, cv, e1, i1⟩ := ho.slot (d := 158) (by simp [dstD])
    clear ho
    simp only [List.append_eq, List.cons_append, List.nil_append, List.take, List.drop, List.map_cons, List.map_nil, dstD, Option.getD_some, putAll, Act.put, List.setIfInBounds_toArray, List.set_cons_succ, List.set_cons_zero, e1]
    clear e1
    generalize hG : gcdI (Int.natAbs (N) : Int) (Int.natAbs (M) : Int) = G at *
    go_upto_region 12 with fail
    have x1 := BoxN.new i1 24
    have hbb := hb.trans ((below_new w9 (.cells #[.bool sv, .slice Av nv cv] 24)).mono hb.size)
    have V7 := Lib.hid (V6.out.trans (hbb.mono V6.out.size))
    have E7 := Lib.hid (E6.out.below hbb)
    replace YA := Lib.hid (YA.out.up hbb)
    replace YB := Lib.hid (YB.out.up hbb)
    have YG := Lib.hid x1
    clear hb hbb x1 i1 V6 E6
    generalize hsz : w9.heap.size = r3 at *
    generalize w9.alloc (.cells #[.bool sv, .slice Av nv cv] 24) = W7 at *
    clear hsz
    by_cases hG0 : G = 0
    · have ZG : (cmpI G 0 == 0) = true := by rw [cmp_zero]; exact decide_eq_true hG0
      obtain ⟨z1, z2⟩ := gcd_zero (hG.trans hG0)
      have ZA : (cmpI N 0 == 0) = true := by rw [cmp_zero]; exact decide_eq_true z1
      have ZB : (cmpI M 0 == 0) = true := by rw [cmp_zero]; exact decide_eq_true z2
      refine wp_region_flow [(12, STy.is (.pointer (some ⟨r3, 0, none⟩))), (159, STy.num (G) (40)), (160, STy.is (.int .i64 (cmpI (G) 0))), (161, STy.is (.bool true))]
          [12] [] 203 3 (by kernel_rfl) rfl trivial ⟨rfl, trivial⟩ ?_ ?_
      · repeat' first
          | exact OpStepsG.nil
          | refine OpStepsG.skip (by rfl) ?_
          | refine OpStepsG.run ?_ ?_
          | exact st_move fun _ _ h => h
          | exact st_assign fun _ _ h => h
          | exact sn_load (fun _ _ h => h) YG.out (fun _ _ h => h)
          | exact sn_add (fun _ _ h => h) (fun _ _ h => h) (by decide) (by decide) (fun _ _ h => h)
          | exact sn_sub (fun _ _ h => h) (fun _ _ h => h) (by decide) (by decide) (fun _ _ h => h)
          | exact sn_mul (fun _ _ h => h) (fun _ _ h => h) (by decide) (by decide) (fun _ _ h => h)
          | exact sn_abs (fun _ _ h => h) (by decide) (fun _ _ h => h)
          | exact sn_cmp (fun _ _ h => h) (fun _ _ h => h) (by decide) (by decide) (fun _ => rfl)
          | exact sn_sign (fun _ _ h => h) (by decide) (fun _ => rfl)
          | exact sn_gcd (fun _ _ h => h) (fun _ _ h => h) E7.out (by decide) (by decide) (fun _ _ h => h)
          | exact sn_put (fun _ _ h => h) E7.out (by decide) (fun _ _ h => h)
          | exact sn_parse (fun _ _ h => h) NL.out (by decide) (fun _ _ h => h)
          | exact sn_pnum (fun _ _ h => h) (fun _ _ h => h)
          | exact sn_perr (fun _ _ h => h) (fun _ => rfl)
          | exact sn_quo (fun _ _ h => h) (fun _ _ h => h)
          | exact sn_rem (fun _ _ h => h) (fun _ _ h => h)
          | exact sn_err (fun _ _ h => h) (fun _ => rfl)
          | exact sn_d00 (fun _ _ h => h) (fun _ => rfl)
          | exact sn_d01 (fun _ _ h => h) (fun _ => rfl)
          | exact sn_d02 (fun _ _ h => h) (fun _ => rfl)
          | exact sn_works E7.out (fun _ => rfl)
          | exact st_eqI (fun _ _ h => h) rfl (fun _ => congrArg Value.bool ZG)
          | exact st_neqI (fun _ _ h => h) rfl (fun _ => congrArg Value.bool ZG)
          | exact st_neqI (fun _ _ h => h) (fun _ _ h => h) (fun _ => congrArg Value.bool ZG)
          | exact st_eqE (x := 0) (y := 0) (fun _ _ h => h) rfl (fun _ => rfl)
          | exact st_eqE (x := 20) (y := 0) (fun _ _ h => h) rfl (fun _ => rfl)
          | exact st_neqE (x := 0) (y := 0) (fun _ _ h => h) rfl (fun _ => rfl)
          | exact st_notB (u := true) (fun _ _ h => h) (fun _ => rfl)
          | exact st_eqB (u := true) (v := true) (fun _ _ h => h) (fun _ _ h => h) (fun _ => rfl)
          | exact st_eqB (u := true) (v := false) (fun _ _ h => h) (fun _ _ h => h) (fun _ => rfl)
          | exact st_notB (u := false) (fun _ _ h => h) (fun _ => rfl)
          | exact st_eqB (u := false) (v := true) (fun _ _ h => h) (fun _ _ h => h) (fun _ => rfl)
          | exact st_eqB (u := false) (v := false) (fun _ _ h => h) (fun _ _ h => h) (fun _ => rfl)
          | exact st_pickAnd (u := true) (v := true) (fun _ _ h => h) (fun _ => fun _ _ h => h) (fun _ => rfl)
          | exact st_pickAnd (u := true) (v := false) (fun _ _ h => h) (fun _ => fun _ _ h => h) (fun _ => rfl)
          | exact st_pickAnd (u := false) (v := false) (fun _ _ h => h) (fun h => nomatch h) (fun _ => rfl)
          | exact st_pickOr (u := true) (v := false) (fun _ _ h => h) (fun h => nomatch h) (fun _ => rfl)
          | exact st_pickOr (u := false) (v := true) (fun _ _ h => h) (fun _ => fun _ _ h => h) (fun _ => rfl)
          | exact st_pickOr (u := false) (v := false) (fun _ _ h => h) (fun _ => fun _ _ h => h) (fun _ => rfl)
      intro v w9 ho hb
      have e1 : v 161 = .bool true := ho.slot (d := 161) (by simp [dstD])
      clear ho
      simp only [List.append_eq, List.cons_append, List.nil_append, List.take, List.drop, List.map_cons, List.map_nil, dstD, Option.getD_some, putAll, Act.put, List.setIfInBounds_toArray, List.set_cons_succ, List.set_cons_zero, e1]
      clear e1
      go_upto_region 13 with fail
      have V8 := Lib.hid (V7.out.trans (hb.mono V7.out.size))
      have E8 := Lib.hid (E7.out.below hb)
      replace YA := Lib.hid (YA.out.up hb)
      replace YB := Lib.hid (YB.out.up hb)
      clear hb V7 E7
      refine wp_region_flow [(3, STy.is (.pointer (some ⟨w.heap.size, 0, none⟩))), (4, STy.is (.pointer (some ⟨w.heap.size + 1, 0, none⟩))), (162, STy.num (N) (20)), (163, STy.is (.int .i64 (cmpI (N) 0))), (164, STy.is (.bool true)), (165, STy.is (.bool true)),
          (166, STy.num (M) (20)), (167, STy.is (.int .i64 (cmpI (M) 0))), (168, STy.is (.bool true)), (169, STy.is (.bool true)), (170, STy.is (.bool true)), (171, STy.is (.bool true)),
          (172, STy.is (.bool true)), (6, STy.is (.bool true))]
          [3, 4] [(165, true), (170, true)] 203 12 (by kernel_rfl) rfl ⟨fun _ _ h => h, fun _ _ h => h, trivial⟩ ⟨rfl, rfl, trivial⟩ ?_ ?_
      · repeat' first
          | exact OpStepsG.nil
          | refine OpStepsG.skip (by rfl) ?_
          | refine OpStepsG.run ?_ ?_
          | exact st_move fun _ _ h => h
          | exact st_assign fun _ _ h => h
          | exact sn_load (fun _ _ h => h) YA.out (fun _ _ h => h)
          | exact sn_load (fun _ _ h => h) YB.out (fun _ _ h => h)
          | exact sn_add (fun _ _ h => h) (fun _ _ h => h) (by decide) (by decide) (fun _ _ h => h)
          | exact sn_sub (fun _ _ h => h) (fun _ _ h => h) (by decide) (by decide) (fun _ _ h => h)
          | exact sn_mul (fun _ _ h => h) (fun _ _ h => h) (by decide) (by decide) (fun _ _ h => h)
          | exact sn_abs (fun _ _ h => h) (by decide) (fun _ _ h => h)
          | exact sn_cmp (fun _ _ h => h) (fun _ _ h => h) (by decide) (by decide) (fun _ => rfl)
          | exact sn_sign (fun _ _ h => h) (by decide) (fun _ => rfl)
          | exact sn_gcd (fun _ _ h => h) (fun _ _ h => h) E8.out (by decide) (by decide) (fun _ _ h => h)
          | exact sn_put (fun _ _ h => h) E8.out (by decide) (fun _ _ h => h)
          | exact sn_parse (fun _ _ h => h) NL.out (by decide) (fun _ _ h => h)
          | exact sn_pnum (fun _ _ h => h) (fun _ _ h => h)
          | exact sn_perr (fun _ _ h => h) (fun _ => rfl)
          | exact sn_quo (fun _ _ h => h) (fun _ _ h => h)
          | exact sn_rem (fun _ _ h => h) (fun _ _ h => h)
          | exact sn_err (fun _ _ h => h) (fun _ => rfl)
          | exact sn_d00 (fun _ _ h => h) (fun _ => rfl)
          | exact sn_d01 (fun _ _ h => h) (fun _ => rfl)
          | exact sn_d02 (fun _ _ h => h) (fun _ => rfl)
          | exact sn_works E8.out (fun _ => rfl)
          | exact st_eqI (fun _ _ h => h) rfl (fun _ => congrArg Value.bool ZA)
          | exact st_neqI (fun _ _ h => h) rfl (fun _ => congrArg Value.bool ZA)
          | exact st_neqI (fun _ _ h => h) (fun _ _ h => h) (fun _ => congrArg Value.bool ZA)
          | exact st_eqI (fun _ _ h => h) rfl (fun _ => congrArg Value.bool ZB)
          | exact st_neqI (fun _ _ h => h) rfl (fun _ => congrArg Value.bool ZB)
          | exact st_neqI (fun _ _ h => h) (fun _ _ h => h) (fun _ => congrArg Value.bool ZB)
          | exact st_eqE (x := 0) (y := 0) (fun _ _ h => h) rfl (fun _ => rfl)
          | exact st_eqE (x := 20) (y := 0) (fun _ _ h => h) rfl (fun _ => rfl)
          | exact st_neqE (x := 0) (y := 0) (fun _ _ h => h) rfl (fun _ => rfl)
          | exact st_notB (u := true) (fun _ _ h => h) (fun _ => rfl)
          | exact st_eqB (u := true) (v := true) (fun _ _ h => h) (fun _ _ h => h) (fun _ => rfl)
          | exact st_eqB (u := true) (v := false) (fun _ _ h => h) (fun _ _ h => h) (fun _ => rfl)
          | exact st_notB (u := false) (fun _ _ h => h) (fun _ => rfl)
          | exact st_eqB (u := false) (v := true) (fun _ _ h => h) (fun _ _ h => h) (fun _ => rfl)
          | exact st_eqB (u := false) (v := false) (fun _ _ h => h) (fun _ _ h => h) (fun _ => rfl)
          | exact st_pickAnd (u := true) (v := true) (fun _ _ h => h) (fun _ => fun _ _ h => h) (fun _ => rfl)
          | exact st_pickAnd (u := true) (v := false) (fun _ _ h => h) (fun _ => fun _ _ h => h) (fun _ => rfl)
          | exact st_pickAnd (u := false) (v := false) (fun _ _ h => h) (fun h => nomatch h) (fun _ => rfl)
          | exact st_pickOr (u := true) (v := false) (fun _ _ h => h) (fun h => nomatch h) (fun _ => rfl)
          | exact st_pickOr (u := false) (v := true) (fun _ _ h => h) (fun _ => fun _ _ h => h) (fun _ => rfl)
          | exact st_pickOr (u := false) (v := false) (fun _ _ h => h) (fun _ => fun _ _ h => h) (fun _ => rfl)
      intro v w9 ho hb
      have e1 : v 6 = .bool true := ho.slot (d := 6) (by simp [dstD])
      clear ho
      simp only [List.append_eq, List.cons_append, List.nil_append, List.take, List.drop, List.map_cons, List.map_nil, dstD, Option.getD_some, putAll, Act.put, List.setIfInBounds_toArray, List.set_cons_succ, List.set_cons_zero, e1]
      clear e1
      have VZ := Lib.hid (V8.out.trans (hb.mono V8.out.size))
      clear hb
      go_wp2_with fail
      go_ret
      exact ⟨rfl, VZ.out⟩
    · have ZG : (cmpI G 0 == 0) = false := by rw [cmp_zero]; exact decide_eq_false hG0
      have hGp : 0 ≤ G := by rw [← hG]; exact gcdI_nonneg _ _
      obtain ⟨d1, d2⟩ := gcd_fmod hG
      have ZA : (cmpI (Int.fmod N G) 0 == 0) = true := by rw [cmp_zero]; exact decide_eq_true d1
      have ZB : (cmpI (Int.fmod M G) 0 == 0) = true := by rw [cmp_zero]; exact decide_eq_true d2
      have ZP : decide ((0 : Int) < cmpI G 0) = true := by rw [cmpI_gt (by omega)]; rfl
      refine wp_region_flow [(12, STy.is (.pointer (some ⟨r3, 0, none⟩))), (159, STy.num (G) (40)), (160, STy.is (.int .i64 (cmpI (G) 0))), (161, STy.is (.bool false))]
          [12] [] 203 3 (by kernel_rfl) rfl trivial ⟨rfl, trivial⟩ ?_ ?_
      · repeat' first
          | exact OpStepsG.nil
          | refine OpStepsG.skip (by rfl) ?_
          | refine OpStepsG.run ?_ ?_
          | exact st_move fun _ _ h => h
          | exact st_assign fun _ _ h => h
          | exact sn_load (fun _ _ h => h) YG.out (fun _ _ h => h)
          | exact sn_add (fun _ _ h => h) (fun _ _ h => h) (by decide) (by decide) (fun _ _ h => h)
          | exact sn_sub (fun _ _ h => h) (fun _ _ h => h) (by decide) (by decide) (fun _ _ h => h)
          | exact sn_mul (fun _ _ h => h) (fun _ _ h => h) (by decide) (by decide) (fun _ _ h => h)
          | exact sn_abs (fun _ _ h => h) (by decide) (fun _ _ h => h)
          | exact sn_cmp (fun _ _ h => h) (fun _ _ h => h) (by decide) (by decide) (fun _ => rfl)
          | exact sn_sign (fun _ _ h => h) (by decide) (fun _ => rfl)
          | exact sn_gcd (fun _ _ h => h) (fun _ _ h => h) E7.out (by decide) (by decide) (fun _ _ h => h)
          | exact sn_put (fun _ _ h => h) E7.out (by decide) (fun _ _ h => h)
          | exact sn_parse (fun _ _ h => h) NL.out (by decide) (fun _ _ h => h)
          | exact sn_pnum (fun _ _ h => h) (fun _ _ h => h)
          | exact sn_perr (fun _ _ h => h) (fun _ => rfl)
          | exact sn_quo (fun _ _ h => h) (fun _ _ h => h)
          | exact sn_rem (fun _ _ h => h) (fun _ _ h => h)
          | exact sn_err (fun _ _ h => h) (fun _ => rfl)
          | exact sn_d00 (fun _ _ h => h) (fun _ => rfl)
          | exact sn_d01 (fun _ _ h => h) (fun _ => rfl)
          | exact sn_d02 (fun _ _ h => h) (fun _ => rfl)
          | exact sn_works E7.out (fun _ => rfl)
          | exact st_eqI (fun _ _ h => h) rfl (fun _ => congrArg Value.bool ZG)
          | exact st_neqI (fun _ _ h => h) rfl (fun _ => congrArg Value.bool ZG)
          | exact st_neqI (fun _ _ h => h) (fun _ _ h => h) (fun _ => congrArg Value.bool ZG)
          | exact st_eqE (x := 0) (y := 0) (fun _ _ h => h) rfl (fun _ => rfl)
          | exact st_eqE (x := 20) (y := 0) (fun _ _ h => h) rfl (fun _ => rfl)
          | exact st_neqE (x := 0) (y := 0) (fun _ _ h => h) rfl (fun _ => rfl)
          | exact st_notB (u := true) (fun _ _ h => h) (fun _ => rfl)
          | exact st_eqB (u := true) (v := true) (fun _ _ h => h) (fun _ _ h => h) (fun _ => rfl)
          | exact st_eqB (u := true) (v := false) (fun _ _ h => h) (fun _ _ h => h) (fun _ => rfl)
          | exact st_notB (u := false) (fun _ _ h => h) (fun _ => rfl)
          | exact st_eqB (u := false) (v := true) (fun _ _ h => h) (fun _ _ h => h) (fun _ => rfl)
          | exact st_eqB (u := false) (v := false) (fun _ _ h => h) (fun _ _ h => h) (fun _ => rfl)
          | exact st_pickAnd (u := true) (v := true) (fun _ _ h => h) (fun _ => fun _ _ h => h) (fun _ => rfl)
          | exact st_pickAnd (u := true) (v := false) (fun _ _ h => h) (fun _ => fun _ _ h => h) (fun _ => rfl)
          | exact st_pickAnd (u := false) (v := false) (fun _ _ h => h) (fun h => nomatch h) (fun _ => rfl)
          | exact st_pickOr (u := true) (v := false) (fun _ _ h => h) (fun h => nomatch h) (fun _ => rfl)
          | exact st_pickOr (u := false) (v := true) (fun _ _ h => h) (fun _ => fun _ _ h => h) (fun _ => rfl)
          | exact st_pickOr (u := false) (v := false) (fun _ _ h => h) (fun _ => fun _ _ h => h) (fun _ => rfl)
      intro v w9 ho hb
      have e1 : v 161 = .bool false := ho.slot (d := 161) (by simp [dstD])
      clear ho
      simp only [List.append_eq, List.cons_append, List.nil_append, List.take, List.drop, List.map_cons, List.map_nil, dstD, Option.getD_some, putAll, Act.put, List.setIfInBounds_toArray, List.set_cons_succ, List.set_cons_zero, e1]
      clear e1
      go_upto_region 14 with fail
      have V8 := Lib.hid (V7.out.trans (hb.mono V7.out.size))
      have E8 := Lib.hid (E7.out.below hb)
      replace YA := Lib.hid (YA.out.up hb)
      replace YB := Lib.hid (YB.out.up hb)
      replace YG := Lib.hid (YG.out.up hb)
      clear hb V7 E7
      refine wp_region_flow [(3, STy.is (.pointer (some ⟨w.heap.size, 0, none⟩))), (12, STy.is (.pointer (some ⟨r3, 0, none⟩))), (174, STy.num (N) (20)), (175, STy.num (G) (40)), (176, STy.div (N) (G) (20) (40)), (173, STy.div (N) (G) (20) (40)),
          (177, STy.num (Int.fdiv (N) (G)) (21)), (178, STy.num (Int.fmod (N) (G)) (40)), (179, STy.is (.int .i64 0))]
          [3, 12] [] 203 7 (by kernel_rfl) rfl trivial ⟨rfl, rfl, trivial⟩ ?_ ?_
      · repeat' first
          | exact OpStepsG.nil
          | refine OpStepsG.skip (by rfl) ?_
          | refine OpStepsG.run ?_ ?_
          | exact st_move fun _ _ h => h
          | exact st_assign fun _ _ h => h
          | exact sn_load (fun _ _ h => h) YA.out (fun _ _ h => h)
          | exact sn_load (fun _ _ h => h) YB.out (fun _ _ h => h)
          | exact sn_load (fun _ _ h => h) YG.out (fun _ _ h => h)
          | exact sn_add (fun _ _ h => h) (fun _ _ h => h) (by decide) (by decide) (fun _ _ h => h)
          | exact sn_sub (fun _ _ h => h) (fun _ _ h => h) (by decide) (by decide) (fun _ _ h => h)
          | exact sn_mul (fun _ _ h => h) (fun _ _ h => h) (by decide) (by decide) (fun _ _ h => h)
          | exact sn_abs (fun _ _ h => h) (by decide) (fun _ _ h => h)
          | exact sn_cmp (fun _ _ h => h) (fun _ _ h => h) (by decide) (by decide) (fun _ => rfl)
          | exact sn_sign (fun _ _ h => h) (by decide) (fun _ => rfl)
          | exact sn_gcd (fun _ _ h => h) (fun _ _ h => h) E8.out (by decide) (by decide) (fun _ _ h => h)
          | exact sn_put (fun _ _ h => h) E8.out (by decide) (fun _ _ h => h)
          | exact sn_parse (fun _ _ h => h) NL.out (by decide) (fun _ _ h => h)
          | exact sn_pnum (fun _ _ h => h) (fun _ _ h => h)
          | exact sn_perr (fun _ _ h => h) (fun _ => rfl)
          | exact sn_quo (fun _ _ h => h) (fun _ _ h => h)
          | exact sn_rem (fun _ _ h => h) (fun _ _ h => h)
          | exact sn_err (fun _ _ h => h) (fun _ => rfl)
          | exact sn_d00 (fun _ _ h => h) (fun _ => rfl)
          | exact sn_d01 (fun _ _ h => h) (fun _ => rfl)
          | exact sn_d02 (fun _ _ h => h) (fun _ => rfl)
          | exact sn_works E8.out (fun _ => rfl)
          | exact sn_div (fun _ _ h => h) (fun _ _ h => h) E8.out hG0 (by decide) (by decide) (fun _ _ h => h)
          | exact st_eqE (x := 0) (y := 0) (fun _ _ h => h) rfl (fun _ => rfl)
          | exact st_eqE (x := 20) (y := 0) (fun _ _ h => h) rfl (fun _ => rfl)
          | exact st_neqE (x := 0) (y := 0) (fun _ _ h => h) rfl (fun _ => rfl)
          | exact st_notB (u := true) (fun _ _ h => h) (fun _ => rfl)
          | exact st_eqB (u := true) (v := true) (fun _ _ h => h) (fun _ _ h => h) (fun _ => rfl)
          | exact st_eqB (u := true) (v := false) (fun _ _ h => h) (fun _ _ h => h) (fun _ => rfl)
          | exact st_notB (u := false) (fun _ _ h => h) (fun _ => rfl)
          | exact st_eqB (u := false) (v := true) (fun _ _ h => h) (fun _ _ h => h) (fun _ => rfl)
          | exact st_eqB (u := false) (v := false) (fun _ _ h => h) (fun _ _ h => h) (fun _ => rfl)
          | exact st_pickAnd (u := true) (v := true) (fun _ _ h => h) (fun _ => fun _ _ h => h) (fun _ => rfl)
          | exact st_pickAnd (u := true) (v := false) (fun _ _ h => h) (fun _ => fun _ _ h => h) (fun _ => rfl)
          | exact st_pickAnd (u := false) (v := false) (fun _ _ h => h) (fun h => nomatch h) (fun _ => rfl)
          | exact st_pickOr (u := true) (v := false) (fun _ _ h => h) (fun h => nomatch h) (fun _ => rfl)
          | exact st_pickOr (u := false) (v := true) (fun _ _ h => h) (fun _ => fun _ _ h => h) (fun _ => rfl)
          | exact st_pickOr (u := false) (v := false) (fun _ _ h => h) (fun _ => fun _ _ h => h) (fun _ => rfl)
      intro v w9 ho hb
      obtain ⟨_, _, _, _, e1, i1⟩ := ho.slot (d := 177) (by simp [dstD])
      obtain ⟨_, _, _, _, e2, i2⟩ := ho.slot (d := 178) (by simp [dstD])
      have e3 : v 179 = .int .i64 0 := ho.slot (d := 179) (by simp [dstD])
      clear ho
      simp only [List.append_eq, List.cons_append, List.nil_append, List.take, List.drop, List.map_cons, List.map_nil, dstD, Option.getD_some, putAll, Act.put, List.setIfInBounds_toArray, List.set_cons_succ, List.set_cons_zero, e1, e2, e3]
      clear e1 e2 e3
      go_upto_region 15 with fail
      obtain ⟨x1, x2, x3⟩ := BoxN.new2 i1 i2 24 24
      have hbb := hb.trans (x3.mono hb.size)
      have V9 := Lib.hid (V8.out.trans (hbb.mono V8.out.size))
      have E9 := Lib.hid (E8.out.below hbb)
      replace YB := Lib.hid (YB.out.up hbb)
      replace YG := Lib.hid (YG.out.up hbb)
      have YX := Lib.hid x1
      have YX2 := Lib.hid x2
      clear hb hbb x1 x2 x3 i1 i2 V8 E8
      generalize hsz : w9.heap.size = r4 at *
      generalize (w9.alloc (.cells #[.bool _, .slice _ _ _] 24)).alloc (.cells #[.bool _, .slice _ _ _] 24) = W9 at *
      clear hsz
      refine wp_region_flow [(4, STy.is (.pointer (some ⟨w.heap.size + 1, 0, none⟩))), (12, STy.is (.pointer (some ⟨r3, 0, none⟩))), (181, STy.num (M) (20)), (182, STy.num (G) (40)), (183, STy.div (M) (G) (20) (40)), (180, STy.div (M) (G) (20) (40)),
          (184, STy.num (Int.fdiv (M) (G)) (21)), (185, STy.num (Int.fmod (M) (G)) (40)), (186, STy.is (.int .i64 0))]
          [4, 12] [] 203 7 (by kernel_rfl) rfl trivial ⟨rfl, rfl, trivial⟩ ?_ ?_
      · repeat' first
          | exact OpStepsG.nil
          | refine OpStepsG.skip (by rfl) ?_
          | refine OpStepsG.run ?_ ?_
          | exact st_move fun _ _ h => h
          | exact st_assign fun _ _ h => h
          | exact sn_load (fun _ _ h => h) YB.out (fun _ _ h => h)
          | exact sn_load (fun _ _ h => h) YG.out (fun _ _ h => h)
          | exact sn_add (fun _ _ h => h) (fun _ _ h => h) (by decide) (by decide) (fun _ _ h => h)
          | exact sn_sub (fun _ _ h => h) (fun _ _ h => h) (by decide) (by decide) (fun _ _ h => h)
          | exact sn_mul (fun _ _ h => h) (fun _ _ h => h) (by decide) (by decide) (fun _ _ h => h)
          | exact sn_abs (fun _ _ h => h) (by decide) (fun _ _ h => h)
          | exact sn_cmp (fun _ _ h => h) (fun _ _ h => h) (by decide) (by decide) (fun _ => rfl)
          | exact sn_sign (fun _ _ h => h) (by decide) (fun _ => rfl)
          | exact sn_gcd (fun _ _ h => h) (fun _ _ h => h) E9.out (by decide) (by decide) (fun _ _ h => h)
          | exact sn_put (fun _ _ h => h) E9.out (by decide) (fun _ _ h => h)
          | exact sn_parse (fun _ _ h => h) NL.out (by decide) (fun _ _ h => h)
          | exact sn_pnum (fun _ _ h => h) (fun _ _ h => h)
          | exact sn_perr (fun _ _ h => h) (fun _ => rfl)
          | exact sn_quo (fun _ _ h => h) (fun _ _ h => h)
          | exact sn_rem (fun _ _ h => h) (fun _ _ h => h)
          | exact sn_err (fun _ _ h => h) (fun _ => rfl)
          | exact sn_d00 (fun _ _ h => h) (fun _ => rfl)
          | exact sn_d01 (fun _ _ h => h) (fun _ => rfl)
          | exact sn_d02 (fun _ _ h => h) (fun _ => rfl)
          | exact sn_works E9.out (fun _ => rfl)
          | exact sn_div (fun _ _ h => h) (fun _ _ h => h) E9.out hG0 (by decide) (by decide) (fun _ _ h => h)
          | exact st_eqE (x := 0) (y := 0) (fun _ _ h => h) rfl (fun _ => rfl)
          | exact st_eqE (x := 20) (y := 0) (fun _ _ h => h) rfl (fun _ => rfl)
          | exact st_neqE (x := 0) (y := 0) (fun _ _ h => h) rfl (fun _ => rfl)
          | exact st_notB (u := true) (fun _ _ h => h) (fun _ => rfl)
          | exact st_eqB (u := true) (v := true) (fun _ _ h => h) (fun _ _ h => h) (fun _ => rfl)
          | exact st_eqB (u := true) (v := false) (fun _ _ h => h) (fun _ _ h => h) (fun _ => rfl)
          | exact st_notB (u := false) (fun _ _ h => h) (fun _ => rfl)
          | exact st_eqB (u := false) (v := true) (fun _ _ h => h) (fun _ _ h => h) (fun _ => rfl)
          | exact st_eqB (u := false) (v := false) (fun _ _ h => h) (fun _ _ h => h) (fun _ => rfl)
          | exact st_pickAnd (u := true) (v := true) (fun _ _ h => h) (fun _ => fun _ _ h => h) (fun _ => rfl)
          | exact st_pickAnd (u := true) (v := false) (fun _ _ h => h) (fun _ => fun _ _ h => h) (fun _ => rfl)
          | exact st_pickAnd (u := false) (v := false) (fun _ _ h => h) (fun h => nomatch h) (fun _ => rfl)
          | exact st_pickOr (u := true) (v := false) (fun _ _ h => h) (fun h => nomatch h) (fun _ => rfl)
          | exact st_pickOr (u := false) (v := true) (fun _ _ h => h) (fun _ => fun _ _ h => h) (fun _ => rfl)
          | exact st_pickOr (u := false) (v := false) (fun _ _ h => h) (fun _ => fun _ _ h => h) (fun _ => rfl)
      intro v w9 ho hb
      obtain ⟨_, _, _, _, e1, i1⟩ := ho.slot (d := 184) (by simp [dstD])
      obtain ⟨_, _, _, _, e2, i2⟩ := ho.slot (d := 185) (by simp [dstD])
      have e3 : v 186 = .int .i64 0 := ho.slot (d := 186) (by simp [dstD])
      clear ho
      simp only [List.append_eq, List.cons_append, List.nil_append, List.take, List.drop, List.map_cons, List.map_nil, dstD, Option.getD_some, putAll, Act.put, List.setIfInBounds_toArray, List.set_cons_succ, List.set_cons_zero, e1, e2, e3]
      clear e1 e2 e3
      go_upto_region 16 with fail
      obtain ⟨x1, x2, x3⟩ := BoxN.new2 i1 i2 24 24
      have hbb := hb.trans (x3.mono hb.size)
      have V10 := Lib.hid (V9.out.trans (hbb.mono V9.out.size))
      have E10 := Lib.hid (E9.out.below hbb)
      replace YG := Lib.hid (YG.out.up hbb)
      replace YX2 := Lib.hid (YX2.out.up hbb)
      have YY := Lib.hid x1
      have YY2 := Lib.hid x2
      clear hb hbb x1 x2 x3 i1 i2 V9 E9
      generalize hsz : w9.heap.size = r5 at *
      generalize (w9.alloc (.cells #[.bool _, .slice _ _ _] 24)).alloc (.cells #[.bool _, .slice _ _ _] 24) = W10 at *
      clear hsz
      refine wp_region_flow [(14, STy.is (.pointer (some ⟨r4 + 1, 0, none⟩))), (17, STy.is (.pointer (some ⟨r5 + 1, 0, none⟩))), (12, STy.is (.pointer (some ⟨r3, 0, none⟩))), (187, STy.num (Int.fmod N G) (40)), (188, STy.is (.int .i64 (cmpI (Int.fmod N G) 0))), (189, STy.is (.bool true)),
          (190, STy.is (.bool true)), (191, STy.num (Int.fmod M G) (40)), (192, STy.is (.int .i64 (cmpI (Int.fmod M G) 0))), (193, STy.is (.bool true)), (194, STy.is (.bool true)), (195, STy.is (.bool true)),
          (196, STy.num (G) (40)), (197, STy.is (.int .i64 (cmpI (G) 0))), (198, STy.is (.bool true)), (199, STy.is (.bool true)), (200, STy.is (.bool true)), (201, STy.is (.bool true)),
          (202, STy.is (.bool true)), (6, STy.is (.bool true))]
          [14, 17, 12] [(190, true), (195, true), (200, true)] 203 17 (by kernel_rfl) rfl ⟨fun _ _ h => h, fun _ _ h => h, fun _ _ h => h, trivial⟩ ⟨rfl, rfl, rfl, trivial⟩ ?_ ?_
      · repeat' first
          | exact OpStepsG.nil
          | refine OpStepsG.skip (by rfl) ?_
          | refine OpStepsG.run ?_ ?_
          | exact st_move fun _ _ h => h
          | exact st_assign fun _ _ h => h
          | exact sn_load (fun _ _ h => h) YG.out (fun _ _ h => h)
          | exact sn_load (fun _ _ h => h) YX2.out (fun _ _ h => h)
          | exact sn_load (fun _ _ h => h) YY2.out (fun _ _ h => h)
          | exact sn_add (fun _ _ h => h) (fun _ _ h => h) (by decide) (by decide) (fun _ _ h => h)
          | exact sn_sub (fun _ _ h => h) (fun _ _ h => h) (by decide) (by decide) (fun _ _ h => h)
          | exact sn_mul (fun _ _ h => h) (fun _ _ h => h) (by decide) (by decide) (fun _ _ h => h)
          | exact sn_abs (fun _ _ h => h) (by decide) (fun _ _ h => h)
          | exact sn_cmp (fun _ _ h => h) (fun _ _ h => h) (by decide) (by decide) (fun _ => rfl)
          | exact sn_sign (fun _ _ h => h) (by decide) (fun _ => rfl)
          | exact sn_gcd (fun _ _ h => h) (fun _ _ h => h) E10.out (by decide) (by decide) (fun _ _ h => h)
          | exact sn_put (fun _ _ h => h) E10.out (by decide) (fun _ _ h => h)
          | exact sn_parse (fun _ _ h => h) NL.out (by decide) (fun _ _ h => h)
          | exact sn_pnum (fun _ _ h => h) (fun _ _ h => h)
          | exact sn_perr (fun _ _ h => h) (fun _ => rfl)
          | exact sn_quo (fun _ _ h => h) (fun _ _ h => h)
          | exact sn_rem (fun _ _ h => h) (fun _ _ h => h)
          | exact sn_err (fun _ _ h => h) (fun _ => rfl)
          | exact sn_d00 (fun _ _ h => h) (fun _ => rfl)
          | exact sn_d01 (fun _ _ h => h) (fun _ => rfl)
          | exact sn_d02 (fun _ _ h => h) (fun _ => rfl)
          | exact sn_works E10.out (fun _ => rfl)
          | exact st_eqI (fun _ _ h => h) rfl (fun _ => congrArg Value.bool ZA)
          | exact st_neqI (fun _ _ h => h) rfl (fun _ => congrArg Value.bool ZA)
          | exact st_neqI (fun _ _ h => h) (fun _ _ h => h) (fun _ => congrArg Value.bool ZA)
          | exact st_eqI (fun _ _ h => h) rfl (fun _ => congrArg Value.bool ZB)
          | exact st_neqI (fun _ _ h => h) rfl (fun _ => congrArg Value.bool ZB)
          | exact st_neqI (fun _ _ h => h) (fun _ _ h => h) (fun _ => congrArg Value.bool ZB)
          | exact st_geqI (fun _ _ h => h) rfl (fun _ => congrArg Value.bool ZP)
          | exact st_gtrI (fun _ _ h => h) rfl (fun _ => congrArg Value.bool ZP)
          | exact st_eqE (x := 0) (y := 0) (fun _ _ h => h) rfl (fun _ => rfl)
          | exact st_eqE (x := 20) (y := 0) (fun _ _ h => h) rfl (fun _ => rfl)
          | exact st_neqE (x := 0) (y := 0) (fun _ _ h => h) rfl (fun _ => rfl)
          | exact st_notB (u := true) (fun _ _ h => h) (fun _ => rfl)
          | exact st_eqB (u := true) (v := true) (fun _ _ h => h) (fun _ _ h => h) (fun _ => rfl)
          | exact st_eqB (u := true) (v := false) (fun _ _ h => h) (fun _ _ h => h) (fun _ => rfl)
          | exact st_notB (u := false) (fun _ _ h => h) (fun _ => rfl)
          | exact st_eqB (u := false) (v := true) (fun _ _ h => h) (fun _ _ h => h) (fun _ => rfl)
          | exact st_eqB (u := false) (v := false) (fun _ _ h => h) (fun _ _ h => h) (fun _ => rfl)
          | exact st_pickAnd (u := true) (v := true) (fun _ _ h => h) (fun _ => fun _ _ h => h) (fun _ => rfl)
          | exact st_pickAnd (u := true) (v := false) (fun _ _ h => h) (fun _ => fun _ _ h => h) (fun _ => rfl)
          | exact st_pickAnd (u := false) (v := false) (fun _ _ h => h) (fun h => nomatch h) (fun _ => rfl)
          | exact st_pickOr (u := true) (v := false) (fun _ _ h => h) (fun h => nomatch h) (fun _ => rfl)
          | exact st_pickOr (u := false) (v := true) (fun _ _ h => h) (fun _ => fun _ _ h => h) (fun _ => rfl)
          | exact st_pickOr (u := false) (v := false) (fun _ _ h => h) (fun _ => fun _ _ h => h) (fun _ => rfl)
      intro v w9 ho hb
      have e1 : v 6 = .bool true := ho.slot (d := 6) (by simp [dstD])
      clear ho
      simp only [List.append_eq, List.cons_append, List.nil_append, List.take, List.drop, List.map_cons, List.map_nil, dstD, Option.getD_some, putAll, Act.put, List.setIfInBounds_toArray, List.set_cons_succ, List.set_cons_zero, e1]
      clear e1
      have VZ := Lib.hid (V10.out.trans (hb.mono V10.out.size))
      clear hb
      go_wp2_with fail
      go_ret
      exact ⟨rfl, VZ.out⟩
end Go.Proofs.YtbjooeapjhaapaaGreatDoor
