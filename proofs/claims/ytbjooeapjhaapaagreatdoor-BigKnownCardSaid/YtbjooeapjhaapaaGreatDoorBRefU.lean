/- tallageref03: Mul: what it answers. -/
import Derived.Test.YtbjooeapjhaapaaGreatDoorBRefN
namespace Go.Proofs.YtbjooeapjhaapaaGreatDoor
open Go Go.RowKit

set_option maxRecDepth 20000 in
set_option maxHeartbeats 2000000 in
theorem mul3_any {w : World} {B : Nat} {s t : Bool} {A A2 : Option Addr} {n c m c2 : Nat} {xs ys : List Int} (hs : Sl .u32 w B A n c xs) (ht : Sl .u32 w B A2 m c2 ys) (hB : B ≤ w.heap.size) (hx : Dg 4294967296 xs) (hy : Dg 4294967296 ys) (hn : n ≤ 10000000) (hm : m ≤ 10000000) :
    Calls Tryz.prog 19 #[.agg #[.bool s, .slice A n c], .agg #[.bool t, .slice A2 m c2]] w (NewI w (ival s xs * ival t ys)) := by
  have HX := Lib.hid hx
  have HY := Lib.hid hy
  generalize hN : ival s xs = N
  generalize hM : ival t ys = M
  have HN := Lib.hid hN
  have HM := Lib.hid hM
  clear hN hM hx hy
  go_enter Tryz.func19, Tryz.ntmps19
  go_wp2_with fail
  refine (plain3_any (((hs.alloc hB _).alloc (by rw [size_one]; omega) _).alloc (by rw [size_two]; omega) _) (by rw [size_three]; omega) HX.out).mono ?_
  rintro e w1 ⟨sa, X, A3, n3, c3, rfl, sX, dX, rX, vX, lX, hb⟩
  obtain ⟨bX, bY, bR, hlt, hb1⟩ := box_new3 hb
  rw [HN.out] at vX
  have bX2 := Boxed.put bX (.bool sa) (.slice A3 n3 c3)
  have bY2 := (Boxed.other bY (q := w.heap.size) (by omega) 0 (.bool sa)).other (q := w.heap.size) (by omega) 1 (.slice A3 n3 c3)
  have bR2 := (Boxed.other bR (q := w.heap.size) (by omega) 0 (.bool sa)).other (q := w.heap.size) (by omega) 1 (.slice A3 n3 c3)
  have sX2 := (sX.setCell (p := ⟨w.heap.size, 0, none⟩) hB (.bool sa)).setCell (p := ⟨w.heap.size, 1, none⟩) hB (.slice A3 n3 c3)
  have sY2 := ((ht.below hb1 hB).setCell (p := ⟨w.heap.size, 0, none⟩) hB (.bool sa)).setCell (p := ⟨w.heap.size, 1, none⟩) hB (.slice A3 n3 c3)
  have hb2 := (hb1.setCell (p := ⟨w.heap.size, 0, none⟩) (Nat.le_refl _) (.bool sa)).setCell (p := ⟨w.heap.size, 1, none⟩) (Nat.le_refl _) (.slice A3 n3 c3)
  have hlt2 : w.heap.size + 2 < ((w1.setCell ⟨w.heap.size, 0, none⟩ (.bool sa)).setCell ⟨w.heap.size, 1, none⟩ (.slice A3 n3 c3)).heap.size := by rw [size_set, size_set]; exact hlt
  obtain ⟨p0, p1, p2, p3⟩ := bX
  obtain ⟨r0, r1, r2, r3⟩ := bY
  clear hb hb1 hs ht sX bR
  go_wp2_with fail
  generalize (w1.setCell ⟨w.heap.size, 0, none⟩ (.bool sa)).setCell ⟨w.heap.size, 1, none⟩ (.slice A3 n3 c3) = W at bX2 bY2 bR2 sX2 sY2 hb2 hlt2 ⊢
  clear p0 p1 p2 p3 r0 r1 r2 r3 hlt
  refine (plain3_any sY2 (Nat.le_trans hB hb2.size) HY.out).mono ?_
  rintro e w2 ⟨sb, Y, A4, n4, c4, rfl, sY, dY, rY, vY, lY, hb⟩
  rw [HM.out] at vY
  have bX3 := bX2.below hb (by omega)
  have bY3 := bY2.below hb (by omega)
  have bR3 := bR2.below hb (by omega)
  have sX4 := ((sX2.below hb (Nat.le_trans hB hb2.size)).setCell (p := ⟨w.heap.size + 1, 0, none⟩) (show B ≤ w.heap.size + 1 by omega) (.bool sb)).setCell (p := ⟨w.heap.size + 1, 1, none⟩) (show B ≤ w.heap.size + 1 by omega) (.slice A4 n4 c4)
  have sY4 := ((sY).setCell (p := ⟨w.heap.size + 1, 0, none⟩) (show B ≤ w.heap.size + 1 by omega) (.bool sb)).setCell (p := ⟨w.heap.size + 1, 1, none⟩) (show B ≤ w.heap.size + 1 by omega) (.slice A4 n4 c4)
  have hb4 := ((hb2.trans (hb.mono hb2.size)).setCell (p := ⟨w.heap.size + 1, 0, none⟩) (Nat.le_succ _) (.bool sb)).setCell (p := ⟨w.heap.size + 1, 1, none⟩) (Nat.le_succ _) (.slice A4 n4 c4)
  have hlt4 : w.heap.size + 2 < ((w2.setCell ⟨w.heap.size + 1, 0, none⟩ (.bool sb)).setCell ⟨w.heap.size + 1, 1, none⟩ (.slice A4 n4 c4)).heap.size := by rw [size_set, size_set]; exact Nat.lt_of_lt_of_le hlt2 hb.size
  have bY4 := Boxed.put bY3 (.bool sb) (.slice A4 n4 c4)
  have bX4 := (Boxed.other bX3 (q := w.heap.size + 1) (by omega) 0 (.bool sb)).other (q := w.heap.size + 1) (by omega) 1 (.slice A4 n4 c4)
  have bR4 := (Boxed.other bR3 (q := w.heap.size + 1) (by omega) 0 (.bool sb)).other (q := w.heap.size + 1) (by omega) 1 (.slice A4 n4 c4)
  clear bX2 bY2 bR2 sX2 sY2 hb2 hlt2 sY hb
  obtain ⟨p0, p1, p2, p3⟩ := bX3
  obtain ⟨r0, r1, r2, r3⟩ := bY3
  clear bR3
  go_wp2_with fail
  generalize (w2.setCell ⟨w.heap.size + 1, 0, none⟩ (.bool sb)).setCell ⟨w.heap.size + 1, 1, none⟩ (.slice A4 n4 c4) = W0 at bX4 bY4 bR4 sX4 sY4 hb4 hlt4 ⊢
  clear p0 p1 p2 p3 r0 r1 r2 r3
  have hvn := Lib.hid (show sgv (sa != sb) (val 4294967296 X * val 4294967296 Y) = N * M by rw [← vX, ← vY, sgv_mul])
  have SX := Lib.hid sX4
  have SY := Lib.hid sY4
  have DX := Lib.hid dX
  have DY := Lib.hid dY
  have BX := Lib.hid bX4
  have BY := Lib.hid bY4
  have BR := Lib.hid bR4
  have B0 := Lib.hid hb4
  have HL := Lib.hid hlt4
  clear sX4 sY4 dX dY bX4 bY4 bR4 hb4 hlt4 vX vY rX rY
  refine wp_region_tail [(2, STy.is (.pointer (some ⟨w.heap.size, 0, none⟩))), (3, STy.is (.pointer (some ⟨w.heap.size + 1, 0, none⟩))), (9, STy.is (.pointer (some ⟨w.heap.size, 0, none⟩))), (10, STy.is (.bool sa)), (11, STy.is (.pointer (some ⟨w.heap.size + 1, 0, none⟩))), (12, STy.is (.bool sb)), (13, STy.is (.bool (sa != sb))),
      (14, STy.is (.pointer (some ⟨w.heap.size, 1, none⟩))), (15, STy.is (.slice A3 n3 c3)), (16, STy.half (val 4294967296 X) (2 * n3)), (17, STy.is (.pointer (some ⟨w.heap.size + 1, 1, none⟩))), (18, STy.is (.slice A4 n4 c4)), (19, STy.half (val 4294967296 Y) (2 * n4)),
      (20, STy.half (val 4294967296 X * val 4294967296 Y) (2 * n3 + 2 * n4)), (21, STy.nat (val 4294967296 X * val 4294967296 Y) (2 * n3 + 2 * n4)), (22, STy.newI W0.heap.size (N * M))]
    [2, 3] [] 23 14 (by kernel_rfl) rfl (by kernel_rfl) rfl trivial ⟨rfl, rfl, trivial⟩ ?ok ?fin
  case ok =>
    repeat' first
      | exact OpSteps.nil
      | refine OpSteps.cons ?_ ?_
      | exact st3_addr0 (fun _ _ h => h) (fun _ => rfl)
      | exact st3_addr1 (fun _ _ h => h) (fun _ => rfl)
      | exact st_cellB (fun _ _ h => h) (cell_on BX.out.1 (by have := HL.out; omega)) (fun _ => rfl)
      | exact st_cellB (fun _ _ h => h) (cell_on BY.out.1 (by have := HL.out; omega)) (fun _ => rfl)
      | exact st_cellU (fun _ _ h => h) (cell_on BX.out.2.1 (by have := HL.out; omega)) (fun _ => rfl)
      | exact st_cellU (fun _ _ h => h) (cell_on BY.out.2.1 (by have := HL.out; omega)) (fun _ => rfl)
      | exact st_neqB (fun _ _ h => h) (fun _ _ h => h) (fun _ => rfl)
      | exact st_call1 enters3_halves (T0 := fun _ v => v = .slice A3 n3 c3) (fun _ _ h => h) (fun W v0 hb h0 => by
          subst h0
          have hz := B0.out.size
          have sl := SX.out.below (hb.mono hz) hB
          refine (halves3_any sl (Nat.le_trans hB (Nat.le_trans hz hb.size)) DX.out (by omega)).mono ?_
          rintro e w' ⟨zs, A5, n5, c5, hr, rfl, ho, hb'⟩
          exact ⟨⟨_, rfl, A5, n5, c5, zs, rfl, ho.sl, hr, by have := half_len sl.len DX.out hr; have := ho.len; omega⟩, hb'⟩)
      | exact st_call1 enters3_halves (T0 := fun _ v => v = .slice A4 n4 c4) (fun _ _ h => h) (fun W v0 hb h0 => by
          subst h0
          have hz := B0.out.size
          have sl := SY.out.below (hb.mono hz) hB
          refine (halves3_any sl (Nat.le_trans hB (Nat.le_trans hz hb.size)) DY.out (by omega)).mono ?_
          rintro e w' ⟨zs, A5, n5, c5, hr, rfl, ho, hb'⟩
          exact ⟨⟨_, rfl, A5, n5, c5, zs, rfl, ho.sl, hr, by have := half_len sl.len DY.out hr; have := ho.len; omega⟩, hb'⟩)
      | exact st_call2 enters3_times (T0 := (STy.half (val 4294967296 X) (2 * n3)).holds) (T1 := (STy.half (val 4294967296 Y) (2 * n4)).holds) (fun _ _ h => h) (fun _ _ h => h) (fun W v0 v1 hb h0 h1 => by
          obtain ⟨A5, n5, c5, us, rfl, s5, r5, l5⟩ := h0
          obtain ⟨A6, n6, c6, vs, rfl, s6, r6, l6⟩ := h1
          refine (times3_any s5 s6 (Nat.le_refl _) r5.dg r6.dg (by omega) (by omega)).mono ?_
          rintro e w' ⟨zs, A7, n7, c7, hr, rfl, ho, hb'⟩
          have hle : zs.length ≤ 2 * n3 + 2 * n4 := by
            refine hr.len_le (by decide) ?_
            have h1 := val_lt (β := 65536) (by decide) r5.dg
            have h2 := val_lt (β := 65536) (by decide) r6.dg
            have h3 := val_nonneg (β := 65536) (by decide) r5.dg
            have h4 := val_nonneg (β := 65536) (by decide) r6.dg
            have h5 : val 65536 us * val 65536 vs < 65536 ^ us.length * 65536 ^ vs.length := Int.lt_of_le_of_lt (Int.mul_le_mul_of_nonneg_left (Int.le_of_lt h2) h3) (Int.mul_lt_mul_of_pos_right h1 (pow_pos' (by decide) _))
            rw [← Int.pow_add] at h5
            exact Int.lt_of_lt_of_le h5 (pow_mono (by decide) (by have := s5.len; have := s6.len; omega))
          rw [r5.val, r6.val] at hr
          exact ⟨⟨_, rfl, A7, n7, c7, zs, rfl, ho.sl, hr, by have := ho.len; omega⟩, hb'⟩)
      | exact st_call1 enters3_limbs (T0 := (STy.half (val 4294967296 X * val 4294967296 Y) (2 * n3 + 2 * n4)).holds) (fun _ _ h => h) (fun W v0 hb h0 => by
          obtain ⟨A5, n5, c5, us, rfl, s5, r5, l5⟩ := h0
          refine (limbs3_any s5 (Nat.le_refl _) r5.dg (by omega)).mono ?_
          rintro e w' ⟨zs, A7, n7, c7, hd, hv, hl, rfl, ho, hb'⟩
          rw [r5.val] at hv
          exact ⟨⟨_, rfl, A7, n7, c7, zs, rfl, ho.sl, hd, hv, by omega⟩, hb'⟩)
      | exact st_call2 enters3_made (T0 := fun _ v => v = .bool (sa != sb)) (T1 := (STy.nat (val 4294967296 X * val 4294967296 Y) (2 * n3 + 2 * n4)).holds) (fun _ _ h => h) (fun _ _ h => h) (fun W v0 v1 hb h0 h1 => by
          subst h0
          obtain ⟨A5, n5, c5, us, rfl, s5, d5, v5, l5⟩ := h1
          refine (made3_any s5 (Nat.le_refl _) d5 (by omega)).mono ?_
          rintro e w' ⟨sc, Z, A7, n7, c7, hW, rfl, ho, hb2⟩
          rw [v5, hvn.out] at hW
          exact ⟨⟨_, rfl, sc, Z, A7, n7, c7, rfl, hW, ho.lower hb.size⟩, hb2⟩)
  case fin =>
    intro v w' ho hb
    obtain ⟨sc, Z, A7, n7, c7, e10, hW, hO⟩ := ho.slot (d := 22) (by simp [dstD])
    clear ho
    simp only [List.take, List.map_cons, List.map_nil, dstD, Option.getD_some, putAll, Act.put, List.setIfInBounds_toArray, List.set_cons_succ, List.set_cons_zero, e10]
    clear e10
    obtain ⟨q0, q1, q2, q3⟩ := Boxed.below BR.out hb HL.out
    have HW := Lib.hid hW
    have HO := Lib.hid hO
    have HB := Lib.hid (B0.out.trans (hb.mono B0.out.size))
    clear hW hO hb
    go_wp2_with fail
    refine bodyPost_ret (v := .agg #[.bool sc, .slice A7 n7 c7]) ?_ rfl (NewI.put HW.out (by omega) HO.out HL.out HB.out)
    simp only [results, Tryz.results19]
    go_simp
end Go.Proofs.YtbjooeapjhaapaaGreatDoor
