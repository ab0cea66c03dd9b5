/- tallageref03: Add, Sub: what each call answers. -/
import Derived.Test.YtbjooeapjhaapaaGreatDoorBRefU
namespace Go.Proofs.YtbjooeapjhaapaaGreatDoor
open Go Go.RowKit

theorem enters_refAdd : Enters Tryz.prog 55 := fun _ _ => by kernel_rfl
theorem sum_len {xs ys : List Int} {zs : List Int} {n m : Nat} (hx : Dg 4294967296 xs) (hy : Dg 4294967296 ys) (h1 : xs.length = n) (h2 : ys.length = m) (h : Row 4294967296 (val 4294967296 xs + val 4294967296 ys) zs) : zs.length ≤ n + m + 1 := by
  refine h.len_le (by decide) ?_
  have a := Int.lt_of_lt_of_le (val_lt (β := 4294967296) (by decide) hx) (pow_mono (by decide) (show xs.length ≤ n + m by omega))
  have b := Int.lt_of_lt_of_le (val_lt (β := 4294967296) (by decide) hy) (pow_mono (by decide) (show ys.length ≤ n + m by omega))
  rw [Int.pow_succ]
  have := pow_pos' (show (0 : Int) < 4294967296 by decide) (n + m)
  omega
theorem less_len {xs zs : List Int} {n : Nat} {y : Int} (hx : Dg 4294967296 xs) (h1 : xs.length = n) (hy : 0 ≤ y) (h : Row 4294967296 (val 4294967296 xs - y) zs) : zs.length ≤ n := by
  refine h.len_le (by decide) ?_
  have a := val_lt (β := 4294967296) (by decide) hx
  rw [h1] at a
  omega
set_option maxRecDepth 20000 in
set_option maxHeartbeats 4000000 in
theorem add3_any {w : World} {B : Nat} {s t : Bool} {A A2 : Option Addr} {n c m c2 : Nat} {xs ys : List Int} (hs : Sl .u32 w B A n c xs) (ht : Sl .u32 w B A2 m c2 ys) (hB : B ≤ w.heap.size) (hx : Dg 4294967296 xs) (hy : Dg 4294967296 ys) (hn : n ≤ 100000000) (hm : m ≤ 100000000) :
    Calls Tryz.prog 17 #[.agg #[.bool s, .slice A n c], .agg #[.bool t, .slice A2 m c2]] w (NewI w (ival s xs + ival t ys)) := by
  have HX := Lib.hid hx
  have HY := Lib.hid hy
  generalize hN : ival s xs = N
  generalize hM : ival t ys = M
  have HN := Lib.hid hN
  have HM := Lib.hid hM
  clear hN hM hx hy
  go_enter Tryz.func17, Tryz.ntmps17
  go_wp2_with fail
  refine (plain3_any (((hs.alloc hB _).alloc (by rw [size_one]; omega) _).alloc (by rw [size_two]; omega) _) (by rw [size_three]; omega) HX.out).mono ?_
  rintro e w1 ⟨sa, X, A3, n3, c3, rfl, sX, dX, rX, vX, lX, hb⟩
  obtain ⟨bX, bY, bR, hlt, hb1⟩ := box_new3 hb
  rw [HN.out] at vX
  have bX2 := Boxed.put bX (.bool sa) (.slice A3 n3 c3)
  have bY2 := (Boxed.other bY (q := w.heap.size) (by omega) 0 (.bool sa)).other (q := w.heap.size) (by omega) 1 (.slice A3 n3 c3)
  have bR2 := (Boxed.other bR (q := w.heap.size) (by omega) 0 (.bool sa)).other (q := w.heap.size) (by omega) 1 (.slice A3 n3 c3)
  have sX2 := (sX.setCell (p := ⟨w.heap.size, 0, none⟩) hB (.bool sa)).setCell (p := ⟨w.heap.size, 1, none⟩) hB (.slice A3 n3 c3)
  have sY2 := ((ht.below hb1 hB).setCell (p := ⟨w.heap.size, 0, none⟩) hB (.bool sa)).setCell (p := ⟨w.heap.size, 1, none⟩) hB (.slice A3 n3 c3)
  have hb2 := (hb1.setCell (p := ⟨w.heap.size, 0, none⟩) (Nat.le_refl _) (.bool sa)).setCell (p := ⟨w.heap.size, 1, none⟩) (Nat.le_refl _) (.slice A3 n3 c3)
  have hlt2 : w.heap.size + 2 < ((w1.setCell ⟨w.heap.size, 0, none⟩ (.bool sa)).setCell ⟨w.heap.size, 1, none⟩ (.slice A3 n3 c3)).heap.size := by rw [size_set, size_set]; exact hlt
  obtain ⟨p0, p1, p2, p3⟩ := bX
  obtain ⟨r0, r1, r2, r3⟩ := bY
  clear hb hb1 hs ht sX bR
  go_wp2_with fail
  generalize (w1.setCell ⟨w.heap.size, 0, none⟩ (.bool sa)).setCell ⟨w.heap.size, 1, none⟩ (.slice A3 n3 c3) = W at bX2 bY2 bR2 sX2 sY2 hb2 hlt2 ⊢
  clear p0 p1 p2 p3 r0 r1 r2 r3 hlt
  refine (plain3_any sY2 (Nat.le_trans hB hb2.size) HY.out).mono ?_
  rintro e w2 ⟨sb, Y, A4, n4, c4, rfl, sY, dY, rY, vY, lY, hb⟩
  rw [HM.out] at vY
  have bX3 := bX2.below hb (by omega)
  have bY3 := bY2.below hb (by omega)
  have bR3 := bR2.below hb (by omega)
  have sX4 := ((sX2.below hb (Nat.le_trans hB hb2.size)).setCell (p := ⟨w.heap.size + 1, 0, none⟩) (show B ≤ w.heap.size + 1 by omega) (.bool sb)).setCell (p := ⟨w.heap.size + 1, 1, none⟩) (show B ≤ w.heap.size + 1 by omega) (.slice A4 n4 c4)
  have sY4 := ((sY).setCell (p := ⟨w.heap.size + 1, 0, none⟩) (show B ≤ w.heap.size + 1 by omega) (.bool sb)).setCell (p := ⟨w.heap.size + 1, 1, none⟩) (show B ≤ w.heap.size + 1 by omega) (.slice A4 n4 c4)
  have hb4 := ((hb2.trans (hb.mono hb2.size)).setCell (p := ⟨w.heap.size + 1, 0, none⟩) (Nat.le_succ _) (.bool sb)).setCell (p := ⟨w.heap.size + 1, 1, none⟩) (Nat.le_succ _) (.slice A4 n4 c4)
  have hlt4 : w.heap.size + 2 < ((w2.setCell ⟨w.heap.size + 1, 0, none⟩ (.bool sb)).setCell ⟨w.heap.size + 1, 1, none⟩ (.slice A4 n4 c4)).heap.size := by rw [size_set, size_set]; exact Nat.lt_of_lt_of_le hlt2 hb.size
  have bY4 := Boxed.put bY3 (.bool sb) (.slice A4 n4 c4)
  have bX4 := (Boxed.other bX3 (q := w.heap.size + 1) (by omega) 0 (.bool sb)).other (q := w.heap.size + 1) (by omega) 1 (.slice A4 n4 c4)
  have bR4 := (Boxed.other bR3 (q := w.heap.size + 1) (by omega) 0 (.bool sb)).other (q := w.heap.size + 1) (by omega) 1 (.slice A4 n4 c4)
  clear bX2 bY2 bR2 sX2 sY2 hb2 hlt2 sY hb
  obtain ⟨p0, p1, p2, p3⟩ := bX3
  obtain ⟨r0, r1, r2, r3⟩ := bY3
  clear bR3
  have LX := sX4.len
  have LY := sY4.len
  have SX := Lib.hid sX4
  have SY := Lib.hid sY4
  have DX := Lib.hid dX
  have DY := Lib.hid dY
  have BX := Lib.hid bX4
  have BY := Lib.hid bY4
  have BR := Lib.hid bR4
  have B0 := Lib.hid hb4
  have HL := Lib.hid hlt4
  have VX := Lib.hid vX
  have VY := Lib.hid vY
  have x0 := val_nonneg (β := 4294967296) (by decide) dX
  have y0 := val_nonneg (β := 4294967296) (by decide) dY
  clear sX4 sY4 dX dY bX4 bY4 bR4 hb4 hlt4 vX vY rX rY
  by_cases hsame : sa = sb
  · subst hsame
    have hvn := Lib.hid (show sgv sa (val 4294967296 X + val 4294967296 Y) = N + M by rw [← VX.out, ← VY.out, sgv_add])
    have heq : (sa == sa) = true := by cases sa <;> rfl
    go_wp2_with fail
    generalize (w2.setCell ⟨w.heap.size + 1, 0, none⟩ (.bool sa)).setCell ⟨w.heap.size + 1, 1, none⟩ (.slice A4 n4 c4) = W0 at BX BY BR SX SY B0 HL ⊢
    clear p0 p1 p2 p3 r0 r1 r2 r3
    refine wp_region_tail [(2, STy.is (.pointer (some ⟨w.heap.size, 0, none⟩))), (3, STy.is (.pointer (some ⟨w.heap.size + 1, 0, none⟩))), (16, STy.is (.pointer (some ⟨w.heap.size, 0, none⟩))), (17, STy.is (.bool sa)), (18, STy.is (.pointer (some ⟨w.heap.size, 1, none⟩))), (19, STy.is (.slice A3 n3 c3)),
        (20, STy.is (.pointer (some ⟨w.heap.size + 1, 1, none⟩))), (21, STy.is (.slice A4 n4 c4)), (22, STy.nat (val 4294967296 X + val 4294967296 Y) (n3 + n4 + 1)), (23, STy.newI W0.heap.size (N + M))]
      [2, 3] [] 50 8 (by kernel_rfl) rfl (by kernel_rfl) rfl trivial ⟨rfl, rfl, trivial⟩ ?ok ?fin
    case ok =>
      repeat' first
        | exact OpSteps.nil
        | refine OpSteps.cons ?_ ?_
        | exact st3_addr0 (fun _ _ h => h) (fun _ => rfl)
        | exact st3_addr1 (fun _ _ h => h) (fun _ => rfl)
        | exact st_cellB (fun _ _ h => h) (cell_on BX.out.1 (by have := HL.out; omega)) (fun _ => rfl)
        | exact st_cellU (fun _ _ h => h) (cell_on BX.out.2.1 (by have := HL.out; omega)) (fun _ => rfl)
        | exact st_cellU (fun _ _ h => h) (cell_on BY.out.2.1 (by have := HL.out; omega)) (fun _ => rfl)
        | exact st_call2 enters_refAdd (T0 := fun _ v => v = .slice A3 n3 c3) (T1 := fun _ v => v = .slice A4 n4 c4) (fun _ _ h => h) (fun _ _ h => h) (fun W v0 v1 hb h0 h1 => by
            subst h0
            subst h1
            have hz := B0.out.size
            refine (refAdd_any (SX.out.below (hb.mono hz) hB) (SY.out.below (hb.mono hz) hB) (Nat.le_trans hB (Nat.le_trans hz hb.size)) DX.out DY.out (by omega) (by omega)).mono ?_
            rintro e w' ⟨zs, hr, A5, n5, c5, rfl, ho, hb'⟩
            exact ⟨⟨_, rfl, A5, n5, c5, zs, rfl, ho.sl, hr.dg, hr.val, by have := sum_len DX.out DY.out LX LY hr; have := ho.len; omega⟩, hb'⟩)
        | exact st_call2 enters3_made (T0 := fun _ v => v = .bool sa) (T1 := (STy.nat (val 4294967296 X + val 4294967296 Y) (n3 + n4 + 1)).holds) (fun _ _ h => h) (fun _ _ h => h) (fun W v0 v1 hb h0 h1 => by
            subst h0
            obtain ⟨A5, n5, c5, us, rfl, s5, d5, v5, l5⟩ := h1
            refine (made3_any s5 (Nat.le_refl _) d5 (by omega)).mono ?_
            rintro e w' ⟨sc, Z, A7, n7, c7, hW, rfl, ho, hb2⟩
            rw [v5, hvn.out] at hW
            exact ⟨⟨_, rfl, sc, Z, A7, n7, c7, rfl, hW, ho.lower hb.size⟩, hb2⟩)
    case fin =>
      intro v w' ho hb
      obtain ⟨sc, Z, A7, n7, c7, e10, hW, hO⟩ := ho.slot (d := 23) (by simp [dstD])
      clear ho
      simp only [List.take, List.map_cons, List.map_nil, dstD, Option.getD_some, putAll, Act.put, List.setIfInBounds_toArray, List.set_cons_succ, List.set_cons_zero, e10]
      clear e10
      obtain ⟨q0, q1, q2, q3⟩ := Boxed.below BR.out hb HL.out
      have HW := Lib.hid hW
      have HO := Lib.hid hO
      have HB := Lib.hid (B0.out.trans (hb.mono B0.out.size))
      clear hW hO hb
      go_wp2_with fail
      refine bodyPost_ret (v := .agg #[.bool sc, .slice A7 n7 c7]) ?_ rfl (NewI.put HW.out (by omega) HO.out HL.out HB.out)
      simp only [results, Tryz.results17]
      go_simp
  · have hne : (sa == sb) = false := by cases sa <;> cases sb <;> simp_all
    have hvn := sgv_less hsame (val 4294967296 X) (val 4294967296 Y)
    rw [VX.out, VY.out] at hvn
    have HV := Lib.hid hvn
    clear hvn hsame
    go_wp2_with fail
    generalize (w2.setCell ⟨w.heap.size + 1, 0, none⟩ (.bool sb)).setCell ⟨w.heap.size + 1, 1, none⟩ (.slice A4 n4 c4) = W0 at BX BY BR SX SY B0 HL ⊢
    clear p0 p1 p2 p3 r0 r1 r2 r3
    have hz := B0.out.size
    by_cases hle : val 4294967296 Y ≤ val 4294967296 X
    · refine (refSub_any SX.out SY.out (Nat.le_trans hB hz) DX.out DY.out (by omega) (by omega) hle).mono ?_
      rintro e w3 ⟨zs, A5, n5, c5, hr, rfl, ho, hb3⟩
      have hl5 := less_len DX.out LX y0 hr
      have hl6 := ho.len
      obtain ⟨p0, p1, p2, p3⟩ := Boxed.below BX.out hb3 (by have := HL.out; omega)
      have BR3 := Lib.hid (Boxed.below BR.out hb3 HL.out)
      have B3 := Lib.hid (B0.out.trans (hb3.mono hz))
      have HL3 := Lib.hid (Nat.lt_of_lt_of_le HL.out hb3.size)
      have s5 := ho.sl
      have HR := Lib.hid hr
      clear ho hb3 hr hl6
      have hn5 : n5 ≤ n3 := by have := s5.len; omega
      clear hl5
      go_wp2_with fail
      refine (made3_any s5 (Nat.le_refl _) HR.out.dg (by omega)).mono ?_
      rintro e w4 ⟨sc, Z, A7, n7, c7, hW, rfl, ho, hb2⟩
      rw [HR.out.val, ← HV.out.1] at hW
      obtain ⟨q0, q1, q2, q3⟩ := Boxed.below BR3.out hb2 HL3.out
      have HW := Lib.hid hW
      have HO := Lib.hid ho
      have HB := Lib.hid (B3.out.trans (hb2.mono B3.out.size))
      clear hW ho hb2 p0 p1 p2 p3 s5
      go_wp2_with fail
      refine bodyPost_ret (v := .agg #[.bool sc, .slice A7 n7 c7]) ?_ rfl (NewI.put HW.out (by omega) HO.out HL3.out HB.out)
      simp only [results, Tryz.results17]
      go_simp
    · have hlt : val 4294967296 X < val 4294967296 Y := by omega
      refine (refSub_less SX.out SY.out (Nat.le_trans hB hz) DX.out DY.out (by omega) (by omega) hlt).mono ?_
      rintro e w3 ⟨rfl, hb3⟩
      obtain ⟨p0, p1, p2, p3⟩ := Boxed.below BX.out hb3 (by have := HL.out; omega)
      obtain ⟨r0, r1, r2, r3⟩ := Boxed.below BY.out hb3 (by have := HL.out; omega)
      have BY3 := Lib.hid (Boxed.below BY.out hb3 (by have := HL.out; omega))
      have BR3 := Lib.hid (Boxed.below BR.out hb3 HL.out)
      have B3 := Lib.hid (B0.out.trans (hb3.mono hz))
      have HL3 := Lib.hid (Nat.lt_of_lt_of_le HL.out hb3.size)
      have S3 := Lib.hid (And.intro (SX.out.below (hb3.mono hz) hB) (SY.out.below (hb3.mono hz) hB))
      have hz3 := B3.out.size
      clear hb3
      go_wp2_with fail
      refine (refSub_any S3.out.2 S3.out.1 (Nat.le_trans hB hz3) DY.out DX.out (by omega) (by omega) (by omega)).mono ?_
      rintro e w4 ⟨zs, A5, n5, c5, hr, rfl, ho, hb3⟩
      have hl5 := less_len DY.out LY x0 hr
      have hl6 := ho.len
      obtain ⟨p0', p1', p2', p3'⟩ := Boxed.below BY3.out hb3 (by have := HL3.out; omega)
      have BR4 := Lib.hid (Boxed.below BR3.out hb3 HL3.out)
      have B4 := Lib.hid (B3.out.trans (hb3.mono hz3))
      have HL4 := Lib.hid (Nat.lt_of_lt_of_le HL3.out hb3.size)
      have s5 := ho.sl
      have HR := Lib.hid hr
      clear ho hb3 hr p0 p1 p2 p3 r0 r1 r2 r3
      have hn5 : n5 ≤ n4 := by omega
      clear hl5 hl6
      go_wp2_with fail
      refine (made3_any s5 (Nat.le_refl _) HR.out.dg (by omega)).mono ?_
      rintro e w5 ⟨sc, Z, A7, n7, c7, hW, rfl, ho, hb2⟩
      rw [HR.out.val, ← HV.out.2] at hW
      obtain ⟨q0, q1, q2, q3⟩ := Boxed.below BR4.out hb2 HL4.out
      have HW := Lib.hid hW
      have HO := Lib.hid ho
      have HB := Lib.hid (B4.out.trans (hb2.mono B4.out.size))
      clear hW ho hb2 p0' p1' p2' p3' s5
      go_wp2_with fail
      refine bodyPost_ret (v := .agg #[.bool sc, .slice A7 n7 c7]) ?_ rfl (NewI.put HW.out (by omega) HO.out HL4.out HB.out)
      simp only [results, Tryz.results17]
      go_simp
end Go.Proofs.YtbjooeapjhaapaaGreatDoor
