/- tallagelaw03.works: the chapter's examples. -/
import Derived.Test.YtbjooeapjhaapaaGreatDoorBNumS
namespace Go.Proofs.YtbjooeapjhaapaaGreatDoor
open Go Go.RowKit

theorem BoxN.new {w : World} {N : Int} {L : Nat} {s : Bool} {A : Option Addr} {n c : Nat} (h : IsN w N L s A n c) (T : TypeId) : BoxN (w.alloc (.cells #[.bool s, .slice A n c] T)) w.heap.size N L := by
  obtain ⟨b0, b1, b2, b3, hlt, hb⟩ := box_new (w := w) (v0 := .bool s) (v1 := .slice A n c) (t := T) (Below.refl _ _)
  exact ⟨hlt, s, A, n, c, ⟨b0, b1, b2, b3⟩, h.up hb⟩
theorem below_new (w : World) (o : Obj) : Below w.heap.size w (w.alloc o) := (Below.refl _ _).alloc (Nat.le_refl _) o
/-- Two new boxes of numbers. -/
theorem BoxN.new2 {w : World} {N M : Int} {L K : Nat} {s t : Bool} {A A2 : Option Addr} {n c m c2 : Nat} (h : IsN w N L s A n c) (h' : IsN w M K t A2 m c2) (T T2 : TypeId) :
    BoxN ((w.alloc (.cells #[.bool s, .slice A n c] T)).alloc (.cells #[.bool t, .slice A2 m c2] T2)) w.heap.size N L ∧ BoxN ((w.alloc (.cells #[.bool s, .slice A n c] T)).alloc (.cells #[.bool t, .slice A2 m c2] T2)) (w.heap.size + 1) M K ∧ Below w.heap.size w ((w.alloc (.cells #[.bool s, .slice A n c] T)).alloc (.cells #[.bool t, .slice A2 m c2] T2)) := by
  have h1 := BoxN.new h T
  have hb := below_new w (.cells #[.bool s, .slice A n c] T)
  have h2 := BoxN.new (h'.up hb) T2
  rw [size_one] at h2
  exact ⟨h1.up (below_new _ _), h2, hb.trans ((below_new _ _).mono (by rw [size_one]; omega))⟩
section
variable {E : List (Nat × STy)} {w0 : World} {d : Nat} {ty : TypeId} {pos : String} {af : Array Edge} {gd : Option (Nat × Bool)}
theorem sn_eqE {o0 : Operand} (h0 : OpIs E o0 (.int .i64 0)) (hd : ∀ w, (slotTy E d).holds w (.bool true)) : OpStep Tryz.prog E w0 ⟨some d, .binOp .eql 28 o0 (.const (.int .i64 0)) 28, ty, pos, af, gd⟩ := by
  intro ρ w hc hf hb hs
  have e0 := OpIs.at_ hc hs (o := o0) (by simp [Op.operands]) h0
  have e1 := hc (.int .i64 0)
  clear h0 hs hc hf hb
  unfold Yields
  go_simp
  exact ⟨hd _, Below.refl _ _⟩
theorem sn_eqL {o0 : Operand} {x : Int} (h0 : OpIs E o0 (.int .i64 x)) (hx : x = 0) (hd : ∀ w, (slotTy E d).holds w (.bool true)) : OpStep Tryz.prog E w0 ⟨some d, .binOp .eql 2 o0 (.const (.int .i64 0)) 2, ty, pos, af, gd⟩ := by
  subst hx
  intro ρ w hc hf hb hs
  have e0 := OpIs.at_ hc hs (o := o0) (by simp [Op.operands]) h0
  have e1 := hc (.int .i64 0)
  clear h0 hs hc hf hb
  unfold Yields
  go_simp
  exact ⟨hd _, Below.refl _ _⟩
theorem sn_eqT {o0 : Operand} {l : List UInt8} {t : ByteArray} (h0 : OpHas E o0 (STy.txt l).holds) (ht : l = t.data.toList) (hd : ∀ w, (slotTy E d).holds w (.bool true)) : OpStep Tryz.prog E w0 ⟨some d, .binOp .eql 9 o0 (.const (.string t)) 9, ty, pos, af, gd⟩ := by
  intro ρ w hc hf hb hs
  obtain ⟨u, e0, hu⟩ := OpHas.at_ hc hs (o := o0) (by simp [Op.operands]) h0
  have e1 := hc (.string t)
  have e2 : (u.toList == t.toList) = true := by rw [ByteArray.toList_eq, ByteArray.toList_eq, hu, ht]; exact beq_self_eq_true _
  clear h0 hs hc hf hb
  unfold Yields
  go_simp
  exact ⟨hd _, Below.refl _ _⟩
end
theorem put_works : putI ((-4294967296) * (4294967296)) = (⟨#[45, 49, 56, 52, 52, 54, 55, 52, 52, 48, 55, 51, 55, 48, 57, 53, 53, 49, 54, 49, 54]⟩ : ByteArray).data.toList := by
  have e : ((-4294967296) * (4294967296) : Int) = -18446744073709551616 := by decide
  rw [e]
  unfold putI
  rw [if_pos (by decide)]
  simp [putL, decL_pos, decL_zero]
set_option maxRecDepth 20000 in
set_option maxHeartbeats 8000000 in
theorem bworks {w : World} (hE : Env w) : Calls Tryz.prog 8 #[] w fun e w' => e = .returned (.bool true) ∧ Below w.heap.size w w' := by
  have V0 := Lib.hid (Below.refl w.heap.size w)
  have E0 := Lib.hid hE
  clear hE
  go_enter Tryz.func8, Tryz.ntmps8
  go_upto_region 1 with fail
  refine wp_region_flow [(14, STy.num (-7) (2)), (15, STy.num (2) (2)), (16, STy.div (-7) (2) (2) (2)), (13, STy.div (-7) (2) (2) (2)), (17, STy.num (Int.fdiv (-7) (2)) (3)), (18, STy.num (Int.fmod (-7) (2)) (2)),
      (19, STy.is (.int .i64 0))]
      [] [] 109 7 (by kernel_rfl) rfl trivial trivial ?ok ?fin
  case ok =>
    repeat' first
      | exact OpStepsG.nil
      | refine OpStepsG.skip (by rfl) ?_
      | refine OpStepsG.run ?_ ?_
      | exact st_move fun _ _ h => h
      | exact st_assign fun _ _ h => h
      | exact sn_of rfl (by decide) (fun _ _ h => h)
      | exact sn_is (fun _ _ h => h) (fun _ _ h => h) (by decide) (by decide) (by decide) (fun _ => rfl)
      | exact st_pickAnd (u := true) (v := true) (fun _ _ h => h) (fun _ => fun _ _ h => h) (fun _ => rfl)
      | exact sn_quo (fun _ _ h => h) (fun _ _ h => h)
      | exact sn_rem (fun _ _ h => h) (fun _ _ h => h)
      | exact sn_err (fun _ _ h => h) (fun _ => rfl)
      | exact sn_div (fun _ _ h => h) (fun _ _ h => h) E0.out (by decide) (by decide) (by decide) (fun _ _ h => h)
      | exact sn_mul (fun _ _ h => h) (fun _ _ h => h) (by decide) (by decide) (fun _ _ h => h)
      | exact sn_gcd (fun _ _ h => h) (fun _ _ h => h) E0.out (by decide) (by decide) (fun _ _ h => h)
      | exact sn_int64 (fun _ _ h => h) E0.out (by decide) (fun _ => rfl)
      | exact sn_put (fun _ _ h => h) E0.out (by decide) (fun _ _ h => h)
      | exact st_extract (fun w v h => ⟨_, _, h, rfl, rfl⟩)
      | exact sn_eqE (fun _ _ h => h) (fun _ => rfl)
      | exact sn_eqL (fun _ _ h => h) (by decide) (fun _ => rfl)
      | exact sn_eqT (fun _ _ h => h) put_works (fun _ => rfl)
      | exact st_notB (u := false) (fun _ _ h => h) (fun _ => rfl)
  case fin =>
    intro v w1 ho hb
    obtain ⟨s1a, A1a, n1a, c1a, e1, i1⟩ := ho.slot (d := 17) (by simp [dstD])
    obtain ⟨s1b, A1b, n1b, c1b, e2, i2⟩ := ho.slot (d := 18) (by simp [dstD])
    have e3 : v 19 = .int .i64 0 := ho.slot (d := 19) (by simp [dstD])
    clear ho
    simp only [List.take, List.drop, List.map_cons, List.map_nil, dstD, Option.getD_some, putAll, Act.put, List.setIfInBounds_toArray, List.set_cons_succ, List.set_cons_zero, e1, e2, e3]
    clear e1 e2 e3
    go_upto_region 2 with fail
    obtain ⟨x1, x2, x3⟩ := BoxN.new2 i1 i2 24 24
    have hbb := hb.trans (x3.mono hb.size)
    have V1 := Lib.hid (V0.out.trans (hbb.mono V0.out.size))
    have E1 := Lib.hid (E0.out.below hbb)
    have B1a_1 := Lib.hid x1
    have B1b_1 := Lib.hid x2
    clear hb hbb x1 x2 x3 i1 i2
    generalize hs1 : w1.heap.size = r1 at *
    generalize (w1.alloc (.cells #[.bool s1a, .slice A1a n1a c1a] 24)).alloc (.cells #[.bool s1b, .slice A1b n1b c1b] 24) = X1 at *
    clear hs1
    refine wp_region_flow [(21, STy.num (7) (2)), (22, STy.num (-2) (2)), (23, STy.div (7) (-2) (2) (2)), (20, STy.div (7) (-2) (2) (2)), (24, STy.num (Int.fdiv (7) (-2)) (3)), (25, STy.num (Int.fmod (7) (-2)) (2)),
        (26, STy.is (.int .i64 0))]
        [] [] 109 7 (by kernel_rfl) rfl trivial trivial ?ok ?fin
    case ok =>
      repeat' first
        | exact OpStepsG.nil
        | refine OpStepsG.skip (by rfl) ?_
        | refine OpStepsG.run ?_ ?_
        | exact st_move fun _ _ h => h
        | exact st_assign fun _ _ h => h
        | exact sn_of rfl (by decide) (fun _ _ h => h)
        | exact sn_is (fun _ _ h => h) (fun _ _ h => h) (by decide) (by decide) (by decide) (fun _ => rfl)
        | exact st_pickAnd (u := true) (v := true) (fun _ _ h => h) (fun _ => fun _ _ h => h) (fun _ => rfl)
        | exact sn_quo (fun _ _ h => h) (fun _ _ h => h)
        | exact sn_rem (fun _ _ h => h) (fun _ _ h => h)
        | exact sn_err (fun _ _ h => h) (fun _ => rfl)
        | exact sn_div (fun _ _ h => h) (fun _ _ h => h) E1.out (by decide) (by decide) (by decide) (fun _ _ h => h)
        | exact sn_mul (fun _ _ h => h) (fun _ _ h => h) (by decide) (by decide) (fun _ _ h => h)
        | exact sn_gcd (fun _ _ h => h) (fun _ _ h => h) E1.out (by decide) (by decide) (fun _ _ h => h)
        | exact sn_int64 (fun _ _ h => h) E1.out (by decide) (fun _ => rfl)
        | exact sn_put (fun _ _ h => h) E1.out (by decide) (fun _ _ h => h)
        | exact st_extract (fun w v h => ⟨_, _, h, rfl, rfl⟩)
        | exact sn_eqE (fun _ _ h => h) (fun _ => rfl)
        | exact sn_eqL (fun _ _ h => h) (by decide) (fun _ => rfl)
        | exact sn_eqT (fun _ _ h => h) put_works (fun _ => rfl)
        | exact st_notB (u := false) (fun _ _ h => h) (fun _ => rfl)
    case fin =>
      intro v w2 ho hb
      obtain ⟨s2a, A2a, n2a, c2a, e1, i1⟩ := ho.slot (d := 24) (by simp [dstD])
      obtain ⟨s2b, A2b, n2b, c2b, e2, i2⟩ := ho.slot (d := 25) (by simp [dstD])
      have e3 : v 26 = .int .i64 0 := ho.slot (d := 26) (by simp [dstD])
      clear ho
      simp only [List.take, List.drop, List.map_cons, List.map_nil, dstD, Option.getD_some, putAll, Act.put, List.setIfInBounds_toArray, List.set_cons_succ, List.set_cons_zero, e1, e2, e3]
      clear e1 e2 e3
      go_upto_region 3 with fail
      obtain ⟨x1, x2, x3⟩ := BoxN.new2 i1 i2 24 24
      have hbb := hb.trans (x3.mono hb.size)
      have V2 := Lib.hid (V1.out.trans (hbb.mono V1.out.size))
      have E2 := Lib.hid (E1.out.below hbb)
      have B1a_2 := Lib.hid (B1a_1.out.up hbb)
      have B1b_2 := Lib.hid (B1b_1.out.up hbb)
      have B2a_2 := Lib.hid x1
      have B2b_2 := Lib.hid x2
      clear hb hbb x1 x2 x3 i1 i2
      generalize hs2 : w2.heap.size = r2 at *
      generalize (w2.alloc (.cells #[.bool s2a, .slice A2a n2a c2a] 24)).alloc (.cells #[.bool s2b, .slice A2b n2b c2b] 24) = X2 at *
      clear hs2
      refine wp_region_flow [(28, STy.num (-7) (2)), (29, STy.num (-2) (2)), (30, STy.div (-7) (-2) (2) (2)), (27, STy.div (-7) (-2) (2) (2)), (31, STy.num (Int.fdiv (-7) (-2)) (3)), (32, STy.num (Int.fmod (-7) (-2)) (2)),
          (33, STy.is (.int .i64 0))]
          [] [] 109 7 (by kernel_rfl) rfl trivial trivial ?ok ?fin
      case ok =>
        repeat' first
          | exact OpStepsG.nil
          | refine OpStepsG.skip (by rfl) ?_
          | refine OpStepsG.run ?_ ?_
          | exact st_move fun _ _ h => h
          | exact st_assign fun _ _ h => h
          | exact sn_of rfl (by decide) (fun _ _ h => h)
          | exact sn_is (fun _ _ h => h) (fun _ _ h => h) (by decide) (by decide) (by decide) (fun _ => rfl)
          | exact st_pickAnd (u := true) (v := true) (fun _ _ h => h) (fun _ => fun _ _ h => h) (fun _ => rfl)
          | exact sn_quo (fun _ _ h => h) (fun _ _ h => h)
          | exact sn_rem (fun _ _ h => h) (fun _ _ h => h)
          | exact sn_err (fun _ _ h => h) (fun _ => rfl)
          | exact sn_div (fun _ _ h => h) (fun _ _ h => h) E2.out (by decide) (by decide) (by decide) (fun _ _ h => h)
          | exact sn_mul (fun _ _ h => h) (fun _ _ h => h) (by decide) (by decide) (fun _ _ h => h)
          | exact sn_gcd (fun _ _ h => h) (fun _ _ h => h) E2.out (by decide) (by decide) (fun _ _ h => h)
          | exact sn_int64 (fun _ _ h => h) E2.out (by decide) (fun _ => rfl)
          | exact sn_put (fun _ _ h => h) E2.out (by decide) (fun _ _ h => h)
          | exact st_extract (fun w v h => ⟨_, _, h, rfl, rfl⟩)
          | exact sn_eqE (fun _ _ h => h) (fun _ => rfl)
          | exact sn_eqL (fun _ _ h => h) (by decide) (fun _ => rfl)
          | exact sn_eqT (fun _ _ h => h) put_works (fun _ => rfl)
          | exact st_notB (u := false) (fun _ _ h => h) (fun _ => rfl)
      case fin =>
        intro v w3 ho hb
        obtain ⟨s3a, A3a, n3a, c3a, e1, i1⟩ := ho.slot (d := 31) (by simp [dstD])
        obtain ⟨s3b, A3b, n3b, c3b, e2, i2⟩ := ho.slot (d := 32) (by simp [dstD])
        have e3 : v 33 = .int .i64 0 := ho.slot (d := 33) (by simp [dstD])
        clear ho
        simp only [List.take, List.drop, List.map_cons, List.map_nil, dstD, Option.getD_some, putAll, Act.put, List.setIfInBounds_toArray, List.set_cons_succ, List.set_cons_zero, e1, e2, e3]
        clear e1 e2 e3
        go_upto_region 4 with fail
        obtain ⟨x1, x2, x3⟩ := BoxN.new2 i1 i2 24 24
        have hbb := hb.trans (x3.mono hb.size)
        have V3 := Lib.hid (V2.out.trans (hbb.mono V2.out.size))
        have E3 := Lib.hid (E2.out.below hbb)
        have B1a_3 := Lib.hid (B1a_2.out.up hbb)
        have B1b_3 := Lib.hid (B1b_2.out.up hbb)
        have B2a_3 := Lib.hid (B2a_2.out.up hbb)
        have B2b_3 := Lib.hid (B2b_2.out.up hbb)
        have B3a_3 := Lib.hid x1
        have B3b_3 := Lib.hid x2
        clear hb hbb x1 x2 x3 i1 i2
        generalize hs3 : w3.heap.size = r3 at *
        generalize (w3.alloc (.cells #[.bool s3a, .slice A3a n3a c3a] 24)).alloc (.cells #[.bool s3b, .slice A3b n3b c3b] 24) = X3 at *
        clear hs3
        refine wp_region_flow [(34, STy.num (-4294967296) (2)), (35, STy.num (4294967296) (2)), (36, STy.num ((-4294967296) * (4294967296)) (4))]
            [] [] 109 3 (by kernel_rfl) rfl trivial trivial ?ok ?fin
        case ok =>
          repeat' first
            | exact OpStepsG.nil
            | refine OpStepsG.skip (by rfl) ?_
            | refine OpStepsG.run ?_ ?_
            | exact st_move fun _ _ h => h
            | exact st_assign fun _ _ h => h
            | exact sn_of rfl (by decide) (fun _ _ h => h)
            | exact sn_is (fun _ _ h => h) (fun _ _ h => h) (by decide) (by decide) (by decide) (fun _ => rfl)
            | exact st_pickAnd (u := true) (v := true) (fun _ _ h => h) (fun _ => fun _ _ h => h) (fun _ => rfl)
            | exact sn_quo (fun _ _ h => h) (fun _ _ h => h)
            | exact sn_rem (fun _ _ h => h) (fun _ _ h => h)
            | exact sn_err (fun _ _ h => h) (fun _ => rfl)
            | exact sn_div (fun _ _ h => h) (fun _ _ h => h) E3.out (by decide) (by decide) (by decide) (fun _ _ h => h)
            | exact sn_mul (fun _ _ h => h) (fun _ _ h => h) (by decide) (by decide) (fun _ _ h => h)
            | exact sn_gcd (fun _ _ h => h) (fun _ _ h => h) E3.out (by decide) (by decide) (fun _ _ h => h)
            | exact sn_int64 (fun _ _ h => h) E3.out (by decide) (fun _ => rfl)
            | exact sn_put (fun _ _ h => h) E3.out (by decide) (fun _ _ h => h)
            | exact st_extract (fun w v h => ⟨_, _, h, rfl, rfl⟩)
            | exact sn_eqE (fun _ _ h => h) (fun _ => rfl)
            | exact sn_eqL (fun _ _ h => h) (by decide) (fun _ => rfl)
            | exact sn_eqT (fun _ _ h => h) put_works (fun _ => rfl)
            | exact st_notB (u := false) (fun _ _ h => h) (fun _ => rfl)
        case fin =>
          intro v w4 ho hb
          obtain ⟨s4a, A4a, n4a, c4a, e1, i1⟩ := ho.slot (d := 36) (by simp [dstD])
          clear ho
          simp only [List.take, List.drop, List.map_cons, List.map_nil, dstD, Option.getD_some, putAll, Act.put, List.setIfInBounds_toArray, List.set_cons_succ, List.set_cons_zero, e1]
          clear e1
          go_upto_region 5 with fail
          have x1 := BoxN.new i1 24
          have hbb := hb.trans ((below_new w4 (.cells #[.bool s4a, .slice A4a n4a c4a] 24)).mono hb.size)
          have V4 := Lib.hid (V3.out.trans (hbb.mono V3.out.size))
          have E4 := Lib.hid (E3.out.below hbb)
          have B1a_4 := Lib.hid (B1a_3.out.up hbb)
          have B1b_4 := Lib.hid (B1b_3.out.up hbb)
          have B2a_4 := Lib.hid (B2a_3.out.up hbb)
          have B2b_4 := Lib.hid (B2b_3.out.up hbb)
          have B3a_4 := Lib.hid (B3a_3.out.up hbb)
          have B3b_4 := Lib.hid (B3b_3.out.up hbb)
          have B4a_4 := Lib.hid x1
          clear hb hbb x1 i1
          generalize hs4 : w4.heap.size = r4 at *
          generalize w4.alloc (.cells #[.bool s4a, .slice A4a n4a c4a] 24) = X4 at *
          clear hs4
          refine wp_region_flow [(10, STy.is (.pointer (some ⟨r4, 0, none⟩))), (38, STy.num ((-4294967296) * (4294967296)) (4)), (39, STy.is (.tuple #[.int .i64 (in64 ((-4294967296) * (4294967296))), .bool (fits64 ((-4294967296) * (4294967296)))])), (37, STy.is (.tuple #[.int .i64 (in64 ((-4294967296) * (4294967296))), .bool (fits64 ((-4294967296) * (4294967296)))])), (40, STy.is (.int .i64 0)), (41, STy.is (.bool false)),
              (11, STy.is (.int .i64 0)), (12, STy.is (.bool false))]
              [10] [] 109 7 (by kernel_rfl) rfl trivial ⟨rfl, trivial⟩ ?ok ?fin
          case ok =>
            repeat' first
              | exact OpStepsG.nil
              | refine OpStepsG.skip (by rfl) ?_
              | refine OpStepsG.run ?_ ?_
              | exact st_move fun _ _ h => h
              | exact st_assign fun _ _ h => h
              | exact sn_of rfl (by decide) (fun _ _ h => h)
              | exact sn_load (fun _ _ h => h) B4a_4.out (fun _ _ h => h)
              | exact sn_is (fun _ _ h => h) (fun _ _ h => h) (by decide) (by decide) (by decide) (fun _ => rfl)
              | exact st_pickAnd (u := true) (v := true) (fun _ _ h => h) (fun _ => fun _ _ h => h) (fun _ => rfl)
              | exact sn_quo (fun _ _ h => h) (fun _ _ h => h)
              | exact sn_rem (fun _ _ h => h) (fun _ _ h => h)
              | exact sn_err (fun _ _ h => h) (fun _ => rfl)
              | exact sn_div (fun _ _ h => h) (fun _ _ h => h) E4.out (by decide) (by decide) (by decide) (fun _ _ h => h)
              | exact sn_mul (fun _ _ h => h) (fun _ _ h => h) (by decide) (by decide) (fun _ _ h => h)
              | exact sn_gcd (fun _ _ h => h) (fun _ _ h => h) E4.out (by decide) (by decide) (fun _ _ h => h)
              | exact sn_int64 (fun _ _ h => h) E4.out (by decide) (fun _ => rfl)
              | exact sn_put (fun _ _ h => h) E4.out (by decide) (fun _ _ h => h)
              | exact st_extract (fun w v h => ⟨_, _, h, rfl, rfl⟩)
              | exact sn_eqE (fun _ _ h => h) (fun _ => rfl)
              | exact sn_eqL (fun _ _ h => h) (by decide) (fun _ => rfl)
              | exact sn_eqT (fun _ _ h => h) put_works (fun _ => rfl)
              | exact st_notB (u := false) (fun _ _ h => h) (fun _ => rfl)
          case fin =>
            intro v w5 ho hb
            have e1 : v 11 = .int .i64 0 := ho.slot (d := 11) (by simp [dstD])
            have e2 : v 12 = .bool false := ho.slot (d := 12) (by simp [dstD])
            clear ho
            simp only [List.take, List.drop, List.map_cons, List.map_nil, dstD, Option.getD_some, putAll, Act.put, List.setIfInBounds_toArray, List.set_cons_succ, List.set_cons_zero, e1, e2]
            clear e1 e2
            go_upto_region 6 with fail
            have V5 := Lib.hid (V4.out.trans (hb.mono V4.out.size))
            have E5 := Lib.hid (E4.out.below hb)
            have B1a_5 := Lib.hid (B1a_4.out.up hb)
            have B1b_5 := Lib.hid (B1b_4.out.up hb)
            have B2a_5 := Lib.hid (B2a_4.out.up hb)
            have B2b_5 := Lib.hid (B2b_4.out.up hb)
            have B3a_5 := Lib.hid (B3a_4.out.up hb)
            have B3b_5 := Lib.hid (B3b_4.out.up hb)
            have B4a_5 := Lib.hid (B4a_4.out.up hb)
            clear hb
            refine wp_region_chain ((3, STy.is (.int .i64 0)) :: (6, STy.is (.int .i64 0)) :: (9, STy.is (.int .i64 0)) :: (11, STy.is (.int .i64 0)) :: (12, STy.is (.bool false)) :: (1, STy.is (.pointer (some ⟨r1, 0, none⟩))) ::
                (2, STy.is (.pointer (some ⟨r1 + 1, 0, none⟩))) :: (4, STy.is (.pointer (some ⟨r2, 0, none⟩))) :: (5, STy.is (.pointer (some ⟨r2 + 1, 0, none⟩))) :: (7, STy.is (.pointer (some ⟨r3, 0, none⟩))) :: (8, STy.is (.pointer (some ⟨r3 + 1, 0, none⟩))) :: (10, STy.is (.pointer (some ⟨r4, 0, none⟩))) ::
                (42, STy.is (.int .i64 0)) :: (43, STy.is (.bool true)) :: (44, STy.is (.bool true)) :: (45, STy.is (.int .i64 0)) :: (46, STy.is (.bool true)) :: (47, STy.is (.bool true)) ::
                (48, STy.is (.bool true)) :: (49, STy.is (.int .i64 0)) :: (50, STy.is (.bool true)) :: (51, STy.is (.bool true)) :: (52, STy.is (.bool true)) :: (53, STy.num (Int.fdiv (-7) (2)) (3)) ::
                (54, STy.num (-4) (2)) :: (55, STy.is (.bool true)) :: (56, STy.is (.bool true)) :: (57, STy.is (.bool true)) :: (58, STy.num (Int.fmod (-7) (2)) (2)) :: (59, STy.num (1) (2)) ::
                (60, STy.is (.bool true)) :: (61, STy.is (.bool true)) :: (62, STy.is (.bool true)) :: (63, STy.num (Int.fdiv (7) (-2)) (3)) :: (64, STy.num (-4) (2)) :: (65, STy.is (.bool true)) ::
                (66, STy.is (.bool true)) :: (67, STy.is (.bool true)) :: (68, STy.num (Int.fmod (7) (-2)) (2)) :: (69, STy.num (-1) (2)) :: (70, STy.is (.bool true)) :: (71, STy.is (.bool true)) ::
                (72, STy.is (.bool true)) :: (73, STy.num (Int.fdiv (-7) (-2)) (3)) :: (74, STy.num (3) (2)) :: (75, STy.is (.bool true)) :: (76, STy.is (.bool true)) :: (77, STy.is (.bool true)) ::
                (78, STy.num (Int.fmod (-7) (-2)) (2)) :: (79, STy.num (-1) (2)) :: (80, STy.is (.bool true)) :: (81, STy.is (.bool true)) :: (82, STy.is (.bool true)) :: (83, STy.num (-12) (2)) ::
                (84, STy.num (18) (2)) :: (85, STy.num (gcdI (Int.natAbs (-12) : Int) (Int.natAbs (18) : Int)) (4)) :: (86, STy.num (6) (2)) :: (87, STy.is (.bool true)) :: (88, STy.is (.bool true)) :: (89, STy.is (.bool true)) ::
                (90, STy.num (0) (2)) :: (91, STy.num (-5) (2)) :: (92, STy.num (gcdI (Int.natAbs (0) : Int) (Int.natAbs (-5) : Int)) (4)) :: (93, STy.num (5) (2)) :: (94, STy.is (.bool true)) :: (95, STy.is (.bool true)) ::
                (96, STy.is (.bool true)) :: (97, STy.num ((-4294967296) * (4294967296)) (4)) :: (98, STy.txt (putI ((-4294967296) * (4294967296)))) :: (99, STy.is (.bool true)) :: (100, STy.is (.bool true)) :: (101, STy.is (.bool true)) ::
                (102, STy.is (.int .i64 0)) :: (103, STy.is (.bool true)) :: (104, STy.is (.bool true)) :: (105, STy.is (.bool true)) :: (106, STy.is (.bool false)) :: (107, STy.is (.bool true)) ::
                (108, STy.is (.bool true)) :: [])
                [3, 6, 9, 11, 12, 1, 2, 4, 5, 7, 8, 10] [(44, true), (48, true), (52, true), (57, true), (62, true), (67, true), (72, true), (77, true), (82, true), (89, true), (96, true), (101, true), (105, true)] 109 67 (by kernel_rfl) (by kernel_rfl) rfl ⟨fun _ _ h => h, fun _ _ h => h, fun _ _ h => h, fun _ _ h => h, fun _ _ h => h, fun _ _ h => h, fun _ _ h => h, fun _ _ h => h, fun _ _ h => h, fun _ _ h => h, fun _ _ h => h, fun _ _ h => h, fun _ _ h => h, trivial⟩ ⟨rfl, rfl, rfl, rfl, rfl, rfl, rfl, rfl, rfl, rfl, rfl, rfl, trivial⟩ ?ok ?al ?fin
            case ok =>
              repeat' first
                | exact OpStepsG.nil
                | refine OpStepsG.skip (by rfl) ?_
                | refine OpStepsG.run ?_ ?_
                | exact st_move fun _ _ h => h
                | exact st_assign fun _ _ h => h
                | exact sn_of rfl (by decide) (fun _ _ h => h)
                | exact sn_load (fun _ _ h => h) B1a_5.out (fun _ _ h => h)
                | exact sn_load (fun _ _ h => h) B1b_5.out (fun _ _ h => h)
                | exact sn_load (fun _ _ h => h) B2a_5.out (fun _ _ h => h)
                | exact sn_load (fun _ _ h => h) B2b_5.out (fun _ _ h => h)
                | exact sn_load (fun _ _ h => h) B3a_5.out (fun _ _ h => h)
                | exact sn_load (fun _ _ h => h) B3b_5.out (fun _ _ h => h)
                | exact sn_load (fun _ _ h => h) B4a_5.out (fun _ _ h => h)
                | exact sn_is (fun _ _ h => h) (fun _ _ h => h) (by decide) (by decide) (by decide) (fun _ => rfl)
                | exact st_pickAnd (u := true) (v := true) (fun _ _ h => h) (fun _ => fun _ _ h => h) (fun _ => rfl)
                | exact sn_quo (fun _ _ h => h) (fun _ _ h => h)
                | exact sn_rem (fun _ _ h => h) (fun _ _ h => h)
                | exact sn_err (fun _ _ h => h) (fun _ => rfl)
                | exact sn_div (fun _ _ h => h) (fun _ _ h => h) E5.out (by decide) (by decide) (by decide) (fun _ _ h => h)
                | exact sn_mul (fun _ _ h => h) (fun _ _ h => h) (by decide) (by decide) (fun _ _ h => h)
                | exact sn_gcd (fun _ _ h => h) (fun _ _ h => h) E5.out (by decide) (by decide) (fun _ _ h => h)
                | exact sn_int64 (fun _ _ h => h) E5.out (by decide) (fun _ => rfl)
                | exact sn_put (fun _ _ h => h) E5.out (by decide) (fun _ _ h => h)
                | exact st_extract (fun w v h => ⟨_, _, h, rfl, rfl⟩)
                | exact sn_eqE (fun _ _ h => h) (fun _ => rfl)
                | exact sn_eqL (fun _ _ h => h) (by decide) (fun _ => rfl)
                | exact sn_eqT (fun _ _ h => h) put_works (fun _ => rfl)
                | exact st_notB (u := false) (fun _ _ h => h) (fun _ => rfl)
            case al =>
              repeat' first
                | exact AllocsOk.nil
                | refine AllocsOk.cons ?_ ?_
                | exact fun T h => nomatch h
            case fin =>
              intro v w6 ho _ hb
              have e1 : v 108 = .bool true := ho.slot (d := 108) (by simp [dstD])
              clear ho
              simp only [List.append_eq, List.cons_append, List.nil_append, List.take, List.drop, List.map_cons, List.map_nil, dstD, Option.getD_some, putAll, Act.put, List.setIfInBounds_toArray, List.set_cons_succ, List.set_cons_zero, e1]
              clear e1
              have V6 := Lib.hid (V5.out.trans (hb.mono V5.out.size))
              clear hb
              go_wp2_with fail
              go_ret
              exact ⟨rfl, V6.out⟩
end Go.Proofs.YtbjooeapjhaapaaGreatDoor
