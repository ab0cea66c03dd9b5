/- tallageref03: Of: what it answers. -/
import Derived.Test.YtbjooeapjhaapaaGreatDoorBRefJ
import Derived.Test.YtbjooeapjhaapaaGreatDoorMathU
import Derived.Laws.IdiomStrings
namespace Go.Proofs.YtbjooeapjhaapaaGreatDoor
open Go Go.RowKit

/-- 64 bits in two limbs, the greater one of each and its opposite. -/
theorem of_halves (k : Int) : ∃ lo hi : Int, (0 ≤ lo ∧ lo < 4294967296) ∧ (0 ≤ hi ∧ hi < 4294967296 ∨ 4294967296 ≤ hi) ∧ (k < 0 → k.tmod 4294967296 = -lo ∧ k.tdiv 4294967296 = -hi ∧ -(lo + 4294967296 * hi) = k) ∧ (0 ≤ k → k.tmod 4294967296 = lo ∧ k.tdiv 4294967296 = hi ∧ lo + 4294967296 * hi = k) := by
  rcases Int.lt_or_le k 0 with hneg | hpos
  · obtain ⟨j, rfl⟩ : ∃ j, k = -j := ⟨-k, by omega⟩
    refine ⟨j % 4294967296, j / 4294967296, by omega, by omega, fun _ => ⟨by rw [Int.neg_tmod, Int.tmod_eq_emod_of_nonneg (by omega)], by rw [Int.neg_tdiv, Int.tdiv_eq_ediv_of_nonneg (by omega)], by omega⟩, fun h => by omega⟩
  · refine ⟨k % 4294967296, k / 4294967296, by omega, by omega, fun h => by omega, fun _ => ⟨by rw [Int.tmod_eq_emod_of_nonneg (by omega)], by rw [Int.tdiv_eq_ediv_of_nonneg (by omega)], by omega⟩⟩
set_option maxRecDepth 20000 in
set_option maxHeartbeats 2000000 in
theorem of3_any {w : World} {k : Int} (hk : -9223372036854775808 ≤ k ∧ k ≤ 9223372036854775807) :
    Calls Tryz.prog 39 #[.int .i64 k] w (NewI w k) := by
  obtain ⟨lo, hi, l0, h0, hneg, hpos⟩ := of_halves k
  rcases Int.lt_or_le k 0 with hn | hn
  · obtain ⟨e1, e2, e3⟩ := hneg hn
    have h0' : 0 ≤ hi ∧ hi < 4294967296 := by omega
    have w1 : IntKind.u32.wrap lo = lo := by rw [IntKind.wrap_u32]; omega
    have w2 : IntKind.u32.wrap hi = hi := by rw [IntKind.wrap_u32]; omega
    have HJ := Lib.hid (show sgv true (val 4294967296 [lo, hi]) = k by rw [sgv_true]; simp [val]; omega)
    have HD := Lib.hid (dg2 l0 h0')
    clear hneg hpos h0 e3 hk
    rcases (show lo = 0 ∨ 0 < lo by omega) with rfl | hl <;> rcases (show hi = 0 ∨ 0 < hi by omega) with rfl | hh
    · go_enter Tryz.func39, Tryz.ntmps39
      go_wp2_with fail
      have hlt0 : w.heap.size < (w.alloc (.cells #[.bool false, .slice none 0 0] 26)).heap.size := by rw [size_one]; exact Nat.lt_succ_self _
      refine (made3_any (lit2 (w.alloc (.cells #[.bool false, .slice none 0 0] 26)) (w.heap.size + 1) (size_one _ _) _ _ _) (by rw [size_two]; exact Nat.le_refl _) HD.out (by omega)).mono ?_
      rintro e w1 ⟨sc, Z, A7, n7, c7, hW, rfl, ho, hb⟩
      rw [HJ.out] at hW
      obtain ⟨h0, h1, h2, h3, _⟩ := box_new (w := w) (v0 := .bool false) (v1 := .slice none 0 0) (t := 26) (Below.refl _ _)
      obtain ⟨q0, q1, q2, q3⟩ := Boxed.below ⟨h0, h1, h2, h3⟩ (below_a1 hb) hlt0
      have HW := Lib.hid hW
      have HO := Lib.hid ho
      have HL := Lib.hid (Nat.lt_of_lt_of_le hlt0 (show _ ≤ ((w.alloc (.cells #[.bool false, .slice none 0 0] 26)).alloc (.cells #[.int .u32 0, .int .u32 0] 66)).heap.size by rw [size_one (w.alloc _)]; exact Nat.le_succ _))
      have HB := Lib.hid (below_a2 hb)
      clear hW ho hb h0 h1 h2 h3 hlt0
      go_wp2_with fail
      refine bodyPost_ret (v := .agg #[.bool sc, .slice A7 n7 c7]) ?_ rfl (NewI.put HW.out (Nat.le_refl _) HO.out HL.out HB.out)
      simp only [results, Tryz.results39]
      go_simp
    · go_enter Tryz.func39, Tryz.ntmps39
      go_wp2_with fail
      have hlt0 : w.heap.size < (w.alloc (.cells #[.bool false, .slice none 0 0] 26)).heap.size := by rw [size_one]; exact Nat.lt_succ_self _
      refine (made3_any (lit2 (w.alloc (.cells #[.bool false, .slice none 0 0] 26)) (w.heap.size + 1) (size_one _ _) _ _ _) (by rw [size_two]; exact Nat.le_refl _) HD.out (by omega)).mono ?_
      rintro e w1 ⟨sc, Z, A7, n7, c7, hW, rfl, ho, hb⟩
      rw [HJ.out] at hW
      obtain ⟨h0, h1, h2, h3, _⟩ := box_new (w := w) (v0 := .bool false) (v1 := .slice none 0 0) (t := 26) (Below.refl _ _)
      obtain ⟨q0, q1, q2, q3⟩ := Boxed.below ⟨h0, h1, h2, h3⟩ (below_a1 hb) hlt0
      have HW := Lib.hid hW
      have HO := Lib.hid ho
      have HL := Lib.hid (Nat.lt_of_lt_of_le hlt0 (show _ ≤ ((w.alloc (.cells #[.bool false, .slice none 0 0] 26)).alloc (.cells #[.int .u32 0, .int .u32 hi] 66)).heap.size by rw [size_one (w.alloc _)]; exact Nat.le_succ _))
      have HB := Lib.hid (below_a2 hb)
      clear hW ho hb h0 h1 h2 h3 hlt0
      go_wp2_with fail
      refine bodyPost_ret (v := .agg #[.bool sc, .slice A7 n7 c7]) ?_ rfl (NewI.put HW.out (Nat.le_refl _) HO.out HL.out HB.out)
      simp only [results, Tryz.results39]
      go_simp
    · go_enter Tryz.func39, Tryz.ntmps39
      go_wp2_with fail
      have hlt0 : w.heap.size < (w.alloc (.cells #[.bool false, .slice none 0 0] 26)).heap.size := by rw [size_one]; exact Nat.lt_succ_self _
      refine (made3_any (lit2 (w.alloc (.cells #[.bool false, .slice none 0 0] 26)) (w.heap.size + 1) (size_one _ _) _ _ _) (by rw [size_two]; exact Nat.le_refl _) HD.out (by omega)).mono ?_
      rintro e w1 ⟨sc, Z, A7, n7, c7, hW, rfl, ho, hb⟩
      rw [HJ.out] at hW
      obtain ⟨h0, h1, h2, h3, _⟩ := box_new (w := w) (v0 := .bool false) (v1 := .slice none 0 0) (t := 26) (Below.refl _ _)
      obtain ⟨q0, q1, q2, q3⟩ := Boxed.below ⟨h0, h1, h2, h3⟩ (below_a1 hb) hlt0
      have HW := Lib.hid hW
      have HO := Lib.hid ho
      have HL := Lib.hid (Nat.lt_of_lt_of_le hlt0 (show _ ≤ ((w.alloc (.cells #[.bool false, .slice none 0 0] 26)).alloc (.cells #[.int .u32 lo, .int .u32 0] 66)).heap.size by rw [size_one (w.alloc _)]; exact Nat.le_succ _))
      have HB := Lib.hid (below_a2 hb)
      clear hW ho hb h0 h1 h2 h3 hlt0
      go_wp2_with fail
      refine bodyPost_ret (v := .agg #[.bool sc, .slice A7 n7 c7]) ?_ rfl (NewI.put HW.out (Nat.le_refl _) HO.out HL.out HB.out)
      simp only [results, Tryz.results39]
      go_simp
    · go_enter Tryz.func39, Tryz.ntmps39
      go_wp2_with fail
      have hlt0 : w.heap.size < (w.alloc (.cells #[.bool false, .slice none 0 0] 26)).heap.size := by rw [size_one]; exact Nat.lt_succ_self _
      refine (made3_any (lit2 (w.alloc (.cells #[.bool false, .slice none 0 0] 26)) (w.heap.size + 1) (size_one _ _) _ _ _) (by rw [size_two]; exact Nat.le_refl _) HD.out (by omega)).mono ?_
      rintro e w1 ⟨sc, Z, A7, n7, c7, hW, rfl, ho, hb⟩
      rw [HJ.out] at hW
      obtain ⟨h0, h1, h2, h3, _⟩ := box_new (w := w) (v0 := .bool false) (v1 := .slice none 0 0) (t := 26) (Below.refl _ _)
      obtain ⟨q0, q1, q2, q3⟩ := Boxed.below ⟨h0, h1, h2, h3⟩ (below_a1 hb) hlt0
      have HW := Lib.hid hW
      have HO := Lib.hid ho
      have HL := Lib.hid (Nat.lt_of_lt_of_le hlt0 (show _ ≤ ((w.alloc (.cells #[.bool false, .slice none 0 0] 26)).alloc (.cells #[.int .u32 lo, .int .u32 hi] 66)).heap.size by rw [size_one (w.alloc _)]; exact Nat.le_succ _))
      have HB := Lib.hid (below_a2 hb)
      clear hW ho hb h0 h1 h2 h3 hlt0
      go_wp2_with fail
      refine bodyPost_ret (v := .agg #[.bool sc, .slice A7 n7 c7]) ?_ rfl (NewI.put HW.out (Nat.le_refl _) HO.out HL.out HB.out)
      simp only [results, Tryz.results39]
      go_simp
  · obtain ⟨e1, e2, e3⟩ := hpos hn
    have h0' : 0 ≤ hi ∧ hi < 4294967296 := by omega
    have w1 : IntKind.u32.wrap lo = lo := by rw [IntKind.wrap_u32]; omega
    have w2 : IntKind.u32.wrap hi = hi := by rw [IntKind.wrap_u32]; omega
    have hd : decide (k < 0) = false := decide_eq_false (by omega)
    have HJ := Lib.hid (show sgv false (val 4294967296 [lo, hi]) = k by rw [sgv_false]; simp [val]; omega)
    have HD := Lib.hid (dg2 l0 h0')
    clear hneg hpos h0 e3 hk
    rcases (show lo = 0 ∨ 0 < lo by omega) with rfl | hl <;> rcases (show hi = 0 ∨ 0 < hi by omega) with rfl | hh
    · go_enter Tryz.func39, Tryz.ntmps39
      go_wp2_with fail
      have hlt0 : w.heap.size < (w.alloc (.cells #[.bool false, .slice none 0 0] 26)).heap.size := by rw [size_one]; exact Nat.lt_succ_self _
      refine (made3_any (lit2 (w.alloc (.cells #[.bool false, .slice none 0 0] 26)) (w.heap.size + 1) (size_one _ _) _ _ _) (by rw [size_two]; exact Nat.le_refl _) HD.out (by omega)).mono ?_
      rintro e w1 ⟨sc, Z, A7, n7, c7, hW, rfl, ho, hb⟩
      rw [HJ.out] at hW
      obtain ⟨h0, h1, h2, h3, _⟩ := box_new (w := w) (v0 := .bool false) (v1 := .slice none 0 0) (t := 26) (Below.refl _ _)
      obtain ⟨q0, q1, q2, q3⟩ := Boxed.below ⟨h0, h1, h2, h3⟩ (below_a1 hb) hlt0
      have HW := Lib.hid hW
      have HO := Lib.hid ho
      have HL := Lib.hid (Nat.lt_of_lt_of_le hlt0 (show _ ≤ ((w.alloc (.cells #[.bool false, .slice none 0 0] 26)).alloc (.cells #[.int .u32 0, .int .u32 0] 66)).heap.size by rw [size_one (w.alloc _)]; exact Nat.le_succ _))
      have HB := Lib.hid (below_a2 hb)
      clear hW ho hb h0 h1 h2 h3 hlt0
      go_wp2_with fail
      refine bodyPost_ret (v := .agg #[.bool sc, .slice A7 n7 c7]) ?_ rfl (NewI.put HW.out (Nat.le_refl _) HO.out HL.out HB.out)
      simp only [results, Tryz.results39]
      go_simp
    · go_enter Tryz.func39, Tryz.ntmps39
      go_wp2_with fail
      have hlt0 : w.heap.size < (w.alloc (.cells #[.bool false, .slice none 0 0] 26)).heap.size := by rw [size_one]; exact Nat.lt_succ_self _
      refine (made3_any (lit2 (w.alloc (.cells #[.bool false, .slice none 0 0] 26)) (w.heap.size + 1) (size_one _ _) _ _ _) (by rw [size_two]; exact Nat.le_refl _) HD.out (by omega)).mono ?_
      rintro e w1 ⟨sc, Z, A7, n7, c7, hW, rfl, ho, hb⟩
      rw [HJ.out] at hW
      obtain ⟨h0, h1, h2, h3, _⟩ := box_new (w := w) (v0 := .bool false) (v1 := .slice none 0 0) (t := 26) (Below.refl _ _)
      obtain ⟨q0, q1, q2, q3⟩ := Boxed.below ⟨h0, h1, h2, h3⟩ (below_a1 hb) hlt0
      have HW := Lib.hid hW
      have HO := Lib.hid ho
      have HL := Lib.hid (Nat.lt_of_lt_of_le hlt0 (show _ ≤ ((w.alloc (.cells #[.bool false, .slice none 0 0] 26)).alloc (.cells #[.int .u32 0, .int .u32 hi] 66)).heap.size by rw [size_one (w.alloc _)]; exact Nat.le_succ _))
      have HB := Lib.hid (below_a2 hb)
      clear hW ho hb h0 h1 h2 h3 hlt0
      go_wp2_with fail
      refine bodyPost_ret (v := .agg #[.bool sc, .slice A7 n7 c7]) ?_ rfl (NewI.put HW.out (Nat.le_refl _) HO.out HL.out HB.out)
      simp only [results, Tryz.results39]
      go_simp
    · go_enter Tryz.func39, Tryz.ntmps39
      go_wp2_with fail
      have hlt0 : w.heap.size < (w.alloc (.cells #[.bool false, .slice none 0 0] 26)).heap.size := by rw [size_one]; exact Nat.lt_succ_self _
      refine (made3_any (lit2 (w.alloc (.cells #[.bool false, .slice none 0 0] 26)) (w.heap.size + 1) (size_one _ _) _ _ _) (by rw [size_two]; exact Nat.le_refl _) HD.out (by omega)).mono ?_
      rintro e w1 ⟨sc, Z, A7, n7, c7, hW, rfl, ho, hb⟩
      rw [HJ.out] at hW
      obtain ⟨h0, h1, h2, h3, _⟩ := box_new (w := w) (v0 := .bool false) (v1 := .slice none 0 0) (t := 26) (Below.refl _ _)
      obtain ⟨q0, q1, q2, q3⟩ := Boxed.below ⟨h0, h1, h2, h3⟩ (below_a1 hb) hlt0
      have HW := Lib.hid hW
      have HO := Lib.hid ho
      have HL := Lib.hid (Nat.lt_of_lt_of_le hlt0 (show _ ≤ ((w.alloc (.cells #[.bool false, .slice none 0 0] 26)).alloc (.cells #[.int .u32 lo, .int .u32 0] 66)).heap.size by rw [size_one (w.alloc _)]; exact Nat.le_succ _))
      have HB := Lib.hid (below_a2 hb)
      clear hW ho hb h0 h1 h2 h3 hlt0
      go_wp2_with fail
      refine bodyPost_ret (v := .agg #[.bool sc, .slice A7 n7 c7]) ?_ rfl (NewI.put HW.out (Nat.le_refl _) HO.out HL.out HB.out)
      simp only [results, Tryz.results39]
      go_simp
    · go_enter Tryz.func39, Tryz.ntmps39
      go_wp2_with fail
      have hlt0 : w.heap.size < (w.alloc (.cells #[.bool false, .slice none 0 0] 26)).heap.size := by rw [size_one]; exact Nat.lt_succ_self _
      refine (made3_any (lit2 (w.alloc (.cells #[.bool false, .slice none 0 0] 26)) (w.heap.size + 1) (size_one _ _) _ _ _) (by rw [size_two]; exact Nat.le_refl _) HD.out (by omega)).mono ?_
      rintro e w1 ⟨sc, Z, A7, n7, c7, hW, rfl, ho, hb⟩
      rw [HJ.out] at hW
      obtain ⟨h0, h1, h2, h3, _⟩ := box_new (w := w) (v0 := .bool false) (v1 := .slice none 0 0) (t := 26) (Below.refl _ _)
      obtain ⟨q0, q1, q2, q3⟩ := Boxed.below ⟨h0, h1, h2, h3⟩ (below_a1 hb) hlt0
      have HW := Lib.hid hW
      have HO := Lib.hid ho
      have HL := Lib.hid (Nat.lt_of_lt_of_le hlt0 (show _ ≤ ((w.alloc (.cells #[.bool false, .slice none 0 0] 26)).alloc (.cells #[.int .u32 lo, .int .u32 hi] 66)).heap.size by rw [size_one (w.alloc _)]; exact Nat.le_succ _))
      have HB := Lib.hid (below_a2 hb)
      clear hW ho hb h0 h1 h2 h3 hlt0
      go_wp2_with fail
      refine bodyPost_ret (v := .agg #[.bool sc, .slice A7 n7 c7]) ?_ rfl (NewI.put HW.out (Nat.le_refl _) HO.out HL.out HB.out)
      simp only [results, Tryz.results39]
      go_simp
end Go.Proofs.YtbjooeapjhaapaaGreatDoor
/- tallageref03: Cmp, Sign: what each call answers. -/
namespace Go.Proofs.YtbjooeapjhaapaaGreatDoor
open Go Go.RowKit

theorem cmp_signs {N M X Y : Int} {s t : Bool} (hN : sgv s X = N) (hM : sgv t Y = M) (h0 : 0 ≤ X) (h1 : 0 ≤ Y) (hs : s = true → 0 < X) (ht : t = true → 0 < Y) :
    (s = true → t = false → cmpI N M = -1) ∧ (s = false → t = true → cmpI N M = 1) ∧ (s = true → t = true → cmpI N M = cmpI Y X) ∧ (s = false → t = false → cmpI N M = cmpI X Y) := by
  subst hN; subst hM
  refine ⟨fun a b => ?_, fun a b => ?_, fun a b => ?_, fun a b => ?_⟩
  · subst a; subst b; exact cmpI_lt (by have := hs rfl; rw [sgv_true, sgv_false]; omega)
  · subst a; subst b; exact cmpI_gt (by have := ht rfl; rw [sgv_true, sgv_false]; omega)
  · subst a; subst b; rw [sgv_true, sgv_true]; exact cmpI_sgn_true _ _
  · subst a; subst b; rfl
set_option maxHeartbeats 2000000 in
theorem cmp3_any {w : World} {B : Nat} {s t : Bool} {A A2 : Option Addr} {n c m c2 : Nat} {xs ys : List Int} (hs : Sl .u32 w B A n c xs) (ht : Sl .u32 w B A2 m c2 ys) (hB : B ≤ w.heap.size) (hx : Dg 4294967296 xs) (hy : Dg 4294967296 ys) (hn : n ≤ 400000000) (hm : m ≤ 400000000) :
    Calls Tryz.prog 29 #[.agg #[.bool s, .slice A n c], .agg #[.bool t, .slice A2 m c2]] w (CmpN w (ival s xs) (ival t ys)) := by
  have HX := Lib.hid hx
  have HY := Lib.hid hy
  generalize hN : ival s xs = N
  generalize hM : ival t ys = M
  have HN := Lib.hid hN
  have HM := Lib.hid hM
  clear hN hM hx hy
  go_enter Tryz.func29, Tryz.ntmps29
  go_wp2_with fail
  refine (plain3_any ((hs.alloc hB _).alloc (by rw [size_one]; omega) _) (by rw [size_two]; omega) HX.out).mono ?_
  rintro e w1 ⟨sa, X, A3, n3, c3, rfl, sX, dX, rX, vX, lX, hb⟩
  obtain ⟨bX, bY, hlt, hb1⟩ := box_new2 hb
  rw [HN.out] at vX
  have bX2 := Boxed.put bX (.bool sa) (.slice A3 n3 c3)
  have bY2 := (Boxed.other bY (q := w.heap.size) (by omega) 0 (.bool sa)).other (q := w.heap.size) (by omega) 1 (.slice A3 n3 c3)
  have sX2 := (sX.setCell (p := ⟨w.heap.size, 0, none⟩) hB (.bool sa)).setCell (p := ⟨w.heap.size, 1, none⟩) hB (.slice A3 n3 c3)
  have sY2 := ((ht.below hb1 hB).setCell (p := ⟨w.heap.size, 0, none⟩) hB (.bool sa)).setCell (p := ⟨w.heap.size, 1, none⟩) hB (.slice A3 n3 c3)
  have hb2 := (hb1.setCell (p := ⟨w.heap.size, 0, none⟩) (Nat.le_refl _) (.bool sa)).setCell (p := ⟨w.heap.size, 1, none⟩) (Nat.le_refl _) (.slice A3 n3 c3)
  have hlt2 : w.heap.size + 1 < ((w1.setCell ⟨w.heap.size, 0, none⟩ (.bool sa)).setCell ⟨w.heap.size, 1, none⟩ (.slice A3 n3 c3)).heap.size := by rw [size_set, size_set]; exact hlt
  obtain ⟨p0, p1, p2, p3⟩ := bX
  obtain ⟨r0, r1, r2, r3⟩ := bY
  clear hb hb1 hs ht sX
  go_wp2_with fail
  generalize (w1.setCell ⟨w.heap.size, 0, none⟩ (.bool sa)).setCell ⟨w.heap.size, 1, none⟩ (.slice A3 n3 c3) = W at bX2 bY2 sX2 sY2 hb2 hlt2 ⊢
  clear p0 p1 p2 p3 r0 r1 r2 r3 hlt
  refine (plain3_any sY2 (Nat.le_trans hB hb2.size) HY.out).mono ?_
  rintro e w2 ⟨sb, Y, A4, n4, c4, rfl, sY, dY, rY, vY, lY, hb⟩
  rw [HM.out] at vY
  obtain ⟨p0, p1, p2, p3⟩ := bX2.below hb (by omega)
  obtain ⟨r0, r1, r2, r3⟩ := bY2.below hb hlt2
  have sX3 := ((sX2.below hb (Nat.le_trans hB hb2.size)).setCell (p := ⟨w.heap.size + 1, 0, none⟩) (show B ≤ w.heap.size + 1 by omega) (.bool sb)).setCell (p := ⟨w.heap.size + 1, 1, none⟩) (show B ≤ w.heap.size + 1 by omega) (.slice A4 n4 c4)
  have sY3 := (sY.setCell (p := ⟨w.heap.size + 1, 0, none⟩) (show B ≤ w.heap.size + 1 by omega) (.bool sb)).setCell (p := ⟨w.heap.size + 1, 1, none⟩) (show B ≤ w.heap.size + 1 by omega) (.slice A4 n4 c4)
  have hb3 := ((hb2.trans (hb.mono hb2.size)).setCell (p := ⟨w.heap.size + 1, 0, none⟩) (Nat.le_succ _) (.bool sb)).setCell (p := ⟨w.heap.size + 1, 1, none⟩) (Nat.le_succ _) (.slice A4 n4 c4)
  obtain ⟨k1, k2, k3, k4⟩ := cmp_signs vX vY (val_nonneg (by decide) dX) (val_nonneg (by decide) dY) (fun h => rgt_pos dX rX h) (fun h => rgt_pos dY rY h)
  have K1 := Lib.hid k1
  have K2 := Lib.hid k2
  have K3 := Lib.hid k3
  have K4 := Lib.hid k4
  have S3 := Lib.hid (And.intro sX3 sY3)
  have D3 := Lib.hid (And.intro dX dY)
  have B3 := Lib.hid hb3
  have hsz := hb3.size
  clear bX2 bY2 sX2 sY2 hb2 hb k1 k2 k3 k4 vX vY rX rY sX3 sY3 sY hb3 dX dY
  rcases sa with _ | _ <;> rcases sb with _ | _
  · have EK := Lib.hid (K4.out rfl rfl)
    clear K1 K2 K3 K4
    go_wp2_with fail
    refine (refCmp_any S3.out.1 S3.out.2 (Nat.le_trans hB hsz) D3.out.1 D3.out.2 (by omega) (by omega)).mono ?_
    rintro e w4 ⟨rfl, hb4⟩
    rw [← EK.out]
    have B4 := Lib.hid (B3.out.trans (hb4.mono B3.out.size))
    clear hb4
    go_wp2_with fail
    go_ret
    exact ⟨rfl, B4.out⟩
  · have EK := Lib.hid (K2.out rfl rfl)
    clear K1 K2 K3 K4
    go_wp2_with fail
    go_ret
    exact ⟨by rw [EK.out]; rfl, B3.out⟩
  · have EK := Lib.hid (K1.out rfl rfl)
    clear K1 K2 K3 K4
    go_wp2_with fail
    go_ret
    exact ⟨by rw [EK.out]; rfl, B3.out⟩
  · have EK := Lib.hid (K3.out rfl rfl)
    clear K1 K2 K3 K4
    go_wp2_with fail
    refine (refCmp_any S3.out.2 S3.out.1 (Nat.le_trans hB hsz) D3.out.2 D3.out.1 (by omega) (by omega)).mono ?_
    rintro e w4 ⟨rfl, hb4⟩
    rw [← EK.out]
    have B4 := Lib.hid (B3.out.trans (hb4.mono B3.out.size))
    clear hb4
    go_wp2_with fail
    go_ret
    exact ⟨rfl, B4.out⟩
end Go.Proofs.YtbjooeapjhaapaaGreatDoor
/- tallageref03: Int64: what it answers. -/
namespace Go.Proofs.YtbjooeapjhaapaaGreatDoor
open Go Go.RowKit

/-- Is a number one of 64 bits; and it, if so. -/
def fits64 (N : Int) : Bool := decide (-9223372036854775808 ≤ N ∧ N ≤ 9223372036854775807)
def in64 (N : Int) : Int := bif fits64 N then N else 0
theorem val_drop_le {X : List Int} (hx : Dg 4294967296 X) (k : Nat) : val 4294967296 (X.drop k) ≤ val 4294967296 X := by
  conv => rhs; rw [← List.take_append_drop k X]
  rw [val_append]
  have h1 := val_nonneg (β := 4294967296) (by decide) (hx.take k)
  have h2 := val_nonneg (β := 4294967296) (by decide) (hx.drop k)
  have h3 := pow_pos' (show (0 : Int) < 4294967296 by decide) (X.take k).length
  have : 1 * val 4294967296 (X.drop k) ≤ 4294967296 ^ (X.take k).length * val 4294967296 (X.drop k) := Int.mul_le_mul_of_nonneg_right (by omega) h2
  omega
set_option maxRecDepth 20000 in
set_option maxHeartbeats 4000000 in
theorem int64_3_any {w : World} {B : Nat} {s : Bool} {A : Option Addr} {n c : Nat} {xs : List Int} (hs : Sl .u32 w B A n c xs) (hB : B ≤ w.heap.size) (hx : Dg 4294967296 xs) (hn : n ≤ 400000000) :
    Calls Tryz.prog 35 #[.agg #[.bool s, .slice A n c]] w fun e w' => e = .returned (.tuple #[.int .i64 (in64 (ival s xs)), .bool (fits64 (ival s xs))]) ∧ Below w.heap.size w w' := by
  have HX := Lib.hid hx
  have HS := Lib.hid hs
  generalize hN : ival s xs = N
  have HN := Lib.hid hN
  clear hx hs hN
  go_enter Tryz.func35, Tryz.ntmps35
  go_wp2_with fail
  refine (of3_any (by omega)).mono ?_
  rintro e w1 ⟨s1, Y1, A1, n1, c1, hW1, rfl, ho1, hb1⟩
  obtain ⟨g0, g1, g2, g3, hlt1, hb1'⟩ := box_new hb1
  have O1 := Lib.hid ho1
  have W1 := Lib.hid hW1
  have B1 := Lib.hid hb1'
  have BX1 := Lib.hid (show Boxed w1 w.heap.size _ _ from ⟨g0, g1, g2, g3⟩)
  clear hW1 ho1 hb1 hb1' g0 g1 g2 g3
  go_wp2_with fail
  refine (of3_any (by omega)).mono ?_
  rintro e w2 ⟨s2, Y2, A2, n2, c2, hW2, rfl, ho2, hb2⟩
  have O1' := Lib.hid (O1.out.below hb2)
  have O2 := Lib.hid ho2
  have W2 := Lib.hid hW2
  have B2 := Lib.hid (B1.out.trans (hb2.mono B1.out.size))
  have BX2 := Lib.hid (Boxed.below BX1.out hb2 hlt1)
  have hlt2 : w.heap.size < w2.heap.size := Nat.lt_of_lt_of_le hlt1 hb2.size
  clear hW2 ho2 hb2 O1 B1 BX1
  obtain ⟨p0, p1, p2, p3⟩ := BX2.out
  go_wp2_with fail
  obtain ⟨bL, bM, hlt3, _⟩ := box_new2 (w := w2) (v0 := .bool s1) (v1 := .slice A1 n1 c1) (u0 := .bool s2) (u1 := .slice A2 n2 c2) (t := 26) (t2 := 26) (Below.refl _ _)
  have hb3 : Below w2.heap.size w2 ((w2.alloc (.cells #[.bool s1, .slice A1 n1 c1] 26)).alloc (.cells #[.bool s2, .slice A2 n2 c2] 26)) := ((Below.refl _ _).alloc (Nat.le_refl _) _).alloc (by rw [size_one]; omega) _
  have BX3 := Lib.hid (Boxed.below BX2.out hb3 hlt2)
  generalize (w2.alloc (.cells #[.bool s1, .slice A1 n1 c1] 26)).alloc (.cells #[.bool s2, .slice A2 n2 c2] 26) = W3 at bL bM hlt3 hb3 BX3 ⊢
  have B3 := Lib.hid (B2.out.trans (hb3.mono B2.out.size))
  have BL := Lib.hid bL
  have BM := Lib.hid bM
  have S1 := Lib.hid (O1'.out.below hb3).sl
  have S2 := Lib.hid (O2.out.below hb3).sl
  have l1 : n1 ≤ 3 := by have := W1.out.len (k := 3) (by decide); have := S1.out.len; omega
  have l2 : n2 ≤ 3 := by have := W2.out.len (k := 3) (by decide); have := S2.out.len; omega
  have hx3 : w.heap.size < W3.heap.size := Nat.lt_of_lt_of_le hlt2 hb3.size
  clear p0 p1 p2 p3 bL bM hb3 O1' O2 B2 BX2
  refine (cmp3_any (((HS.out.below B3.out hB)).more (Nat.le_trans hB B3.out.size)) S1.out (Nat.le_refl _) HX.out W1.out.row.dg hn (by omega)).mono ?_
  rintro e w4 ⟨rfl, hb4⟩
  rw [HN.out, W1.out.val]
  have B4 := Lib.hid (B3.out.trans (hb4.mono B3.out.size))
  have BX4 := Lib.hid (Boxed.below BX3.out hb4 hx3)
  have BM4 := Lib.hid (Boxed.below BM.out hb4 hlt3)
  have S4 := Lib.hid ((S2.out.below hb4 (Nat.le_refl _)).more hb4.size)
  have hx4 : w.heap.size < w4.heap.size := Nat.lt_of_lt_of_le hx3 hb4.size
  clear hb4 B3 BX3 BL BM S1 S2 hx3 hlt2 hlt3
  by_cases h1 : N < -9223372036854775808
  · have HF : in64 N = 0 ∧ fits64 N = false := by
      have : fits64 N = false := decide_eq_false (by omega)
      exact ⟨by unfold in64; rw [this]; rfl, this⟩
    rw [cmpI_lt h1]
    have HF := Lib.hid HF
    clear h1
    go_wp2_with fail
    go_ret2
    exact ⟨by rw [HF.out.1, HF.out.2]; rfl, B4.out⟩
  · obtain ⟨v, hv, hv0⟩ : ∃ v, cmpI N (-9223372036854775808) = v ∧ 0 ≤ v := ⟨_, rfl, by have := cmpI_neg_le (a := N) (b := -9223372036854775808); omega⟩
    rw [hv]
    clear hv
    obtain ⟨p0, p1, p2, p3⟩ := BX4.out
    obtain ⟨r0, r1, r2, r3⟩ := BM4.out
    have HLO := Lib.hid h1
    clear h1
    go_wp2_with fail
    refine (cmp3_any (((HS.out.below B4.out hB)).more (Nat.le_trans hB B4.out.size)) S4.out (Nat.le_refl _) HX.out W2.out.row.dg hn (by omega)).mono ?_
    rintro e w5 ⟨rfl, hb5⟩
    rw [HN.out, W2.out.val]
    have B5 := Lib.hid (B4.out.trans (hb5.mono B4.out.size))
    have BX5 := Lib.hid (Boxed.below BX4.out hb5 hx4)
    have hx5 : w.heap.size < w5.heap.size := Nat.lt_of_lt_of_le hx4 hb5.size
    clear hb5 B4 BX4 BM4 S4 hx4 p0 p1 p2 p3 r0 r1 r2 r3
    by_cases h2 : 9223372036854775807 < N
    · have HF : in64 N = 0 ∧ fits64 N = false := by
        have : fits64 N = false := decide_eq_false (by omega)
        exact ⟨by unfold in64; rw [this]; rfl, this⟩
      rw [cmpI_gt h2]
      have HF := Lib.hid HF
      clear h2
      go_wp2_with fail
      go_ret2
      exact ⟨by rw [HF.out.1, HF.out.2]; rfl, B5.out⟩
    · obtain ⟨v2, hv2, hv20⟩ : ∃ v, cmpI N 9223372036854775807 = v ∧ v ≤ 0 := ⟨_, rfl, by have := cmpI_pos_gt (a := N) (b := 9223372036854775807); omega⟩
      rw [hv2]
      have HFt := Lib.hid (show in64 N = N ∧ fits64 N = true by
        have : fits64 N = true := decide_eq_true (by have := HLO.out; omega)
        exact ⟨by unfold in64; rw [this]; rfl, this⟩)
      have HNB := Lib.hid (show -9223372036854775808 ≤ N ∧ N ≤ 9223372036854775807 by have := HLO.out; omega)
      clear hv2 h2 HLO
      obtain ⟨p0, p1, p2, p3⟩ := BX5.out
      go_wp2_with fail
      refine (plain3_any (HS.out.below B5.out hB) (Nat.le_trans hB B5.out.size) HX.out).mono ?_
      rintro e w6 ⟨sa, X, A3, n3, c3, rfl, sX, dX, rX, vX, lX, hb6⟩
      rw [HN.out] at vX
      obtain ⟨q0, q1, q2, q3⟩ := Boxed.below BX5.out hb6 hx5
      have BX6 := Lib.hid (Boxed.put (Boxed.below BX5.out hb6 hx5) (.bool sa) (.slice A3 n3 c3))
      have B6 := Lib.hid (((B5.out.trans (hb6.mono B5.out.size)).setCell (p := ⟨w.heap.size, 0, none⟩) (Nat.le_refl _) (.bool sa)).setCell (p := ⟨w.heap.size, 1, none⟩) (Nat.le_refl _) (.slice A3 n3 c3))
      have S6 := (sX.setCell (p := ⟨w.heap.size, 0, none⟩) hB (.bool sa)).setCell (p := ⟨w.heap.size, 1, none⟩) hB (.slice A3 n3 c3)
      have hXl := sX.len
      have hx0 := val_nonneg (β := 4294967296) (by decide) dX
      have HB63 := Lib.hid (show val 4294967296 X ≤ 9223372036854775808 ∧ (sa = false → val 4294967296 X ≤ 9223372036854775807) by
        have := HNB.out
        rw [← vX] at this
        cases sa
        · rw [sgv_false] at this; exact ⟨by omega, fun _ => by omega⟩
        · rw [sgv_true] at this; exact ⟨by omega, fun h => by cases h⟩)
      have HVX := Lib.hid vX
      have hn3 : n3 ≤ 400000000 := by omega
      clear p0 p1 p2 p3 hb6 sX vX rX B5 BX5 hx5
      go_wp2_with fail
      generalize (w6.setCell ⟨w.heap.size, 0, none⟩ (.bool sa)).setCell ⟨w.heap.size, 1, none⟩ (.slice A3 n3 c3) = W7 at BX6 B6 S6 ⊢
      clear q0 q1 q2 q3
      obtain ⟨p0, p1, p2, p3⟩ := BX6.out
      go_loop [6, 7] (fun nv iv => ∃ k : Nat, k ≤ n3 ∧ iv = .int .i64 ((k : Int) - 1) ∧ nv = .int .i64 (-(val 4294967296 (X.drop k)))) (fun _ iv => (intOf iv + 1).toNat)
      case atStart => exact ⟨n3, Nat.le_refl _, rfl, by rw [List.drop_of_length_le (by omega)]; rfl⟩
      case round =>
        obtain ⟨k, hk, rfl, rfl⟩ := hrel
        by_cases h0 : k = 0
        · subst h0
          have h63 := HB63.out
          have HV := Lib.hid (show val 4294967296 (X.drop 0) = val 4294967296 X by simp)
          cases sa
          · have HW := Lib.hid (show IntKind.i64.wrap (val 4294967296 X) = val 4294967296 X by have := h63.2 rfl; rw [IntKind.wrap_i64]; omega)
            have HR := Lib.hid (show N = val 4294967296 X by rw [← HVX.out]; rfl)
            clear h63
            go_wp2_with fail
            go_ret2
            exact ⟨by rw [HFt.out.1, HFt.out.2, HR.out]; simp; exact (show wrap64 _ = _ from by unfold wrap64; exact (IntKind.wrap_i64 _).symm.trans HW.out), B6.out⟩
          · have HR := Lib.hid (show N = -(val 4294967296 X) by rw [← HVX.out]; rfl)
            clear h63
            go_wp2_with fail
            go_ret2
            exact ⟨by rw [HFt.out.1, HFt.out.2, HR.out, ← HV.out]; rfl, B6.out⟩
        · obtain ⟨j, rfl⟩ : ∃ j, k = j + 1 := ⟨k - 1, by omega⟩
          obtain ⟨b, off, x, rfl, _, ex, hcell⟩ := S6.at_ (j := j) (by omega)
          have hxx := dX.get ex
          have hh := val_head 4294967296 ex
          have hle := val_drop_le dX j
          have h0' := val_nonneg (β := 4294967296) (by decide) (dX.drop (j + 1))
          have h63 := HB63.out.1
          have hw1 : IntKind.i64.wrap (4294967296 * -(val 4294967296 (X.drop (j + 1)))) = 4294967296 * -(val 4294967296 (X.drop (j + 1))) := by rw [IntKind.wrap_i64]; omega
          have hw2 : IntKind.i64.wrap (4294967296 * -(val 4294967296 (X.drop (j + 1))) - x) = 4294967296 * -(val 4294967296 (X.drop (j + 1))) - x := by rw [IntKind.wrap_i64]; omega
          have HE := Lib.hid (show 4294967296 * -(val 4294967296 (X.drop (j + 1))) - x = -(val 4294967296 (X.drop j)) by omega)
          have hjn : (j : Int) < (n3 : Int) := by omega
          clear hh hle h63
          generalize val 4294967296 (X.drop (j + 1)) = V at *
          go_wp2_with fail
          go_round
          case rel => exact ⟨j, by omega, by simp, by rw [← HE.out]⟩
          case measure => simp [intOf]
end Go.Proofs.YtbjooeapjhaapaaGreatDoor
/- tallageref03: Put: what it answers. -/
namespace Go.Proofs.YtbjooeapjhaapaaGreatDoor
open Go Go.RowKit

/-- A whole number, written. -/
def putI (N : Int) : List UInt8 := if N < 0 then 45 :: putL N.natAbs else putL N.natAbs
/-- A text in whatever world. -/
def TextI (w : World) (l : List UInt8) (e : Ending) (w' : World) : Prop := ∃ t : ByteArray, e = .returned (.string t) ∧ t.data.toList = l ∧ Below w.heap.size w w'
theorem pow_base {a b : Int} (h0 : 0 ≤ a) (h : a ≤ b) (n : Nat) : a ^ n ≤ b ^ n := by
  induction n with
  | zero => simp
  | succ n ih =>
    rw [Int.pow_succ, Int.pow_succ]
    exact Int.mul_le_mul ih h h0 (Int.le_trans (Int.pow_nonneg h0) ih)
/-- The number that a slice of limbs reads as in a world. -/
def rdu (w : World) : Value → Nat
  | .slice (some ⟨b, off, _⟩) n _ => (val 4294967296 ((List.range n).map fun j => match w.cell? ⟨b, off + j, none⟩ with | some (.int _ x) => x | _ => 0)).toNat
  | _ => 0
theorem Sl.rdu {w : World} {B : Nat} {A : Option Addr} {n c : Nat} {xs : List Int} (h : Sl .u32 w B A n c xs) : rdu w (.slice A n c) = (val 4294967296 xs).toNat := by
  cases A with
  | none =>
    have h0 := h.2.2.2.1 rfl
    have : xs = [] := List.eq_nil_of_length_eq_zero (by have := h.len; have := h.le; omega)
    subst this
    rfl
  | some a =>
    by_cases hn : 0 < n
    · obtain ⟨b, off, hA, _, hc⟩ := h.2.2.2.2 hn
      injection hA with hA
      subst hA
      have e : ((List.range n).map fun j => match w.cell? ⟨b, off + j, none⟩ with | some (.int _ x) => x | _ => 0) = xs := by
        refine List.ext_getElem? fun i => ?_
        rcases Nat.lt_or_ge i n with hi | hi
        · obtain ⟨x, hx⟩ := get_of_lt (xs := xs) (by rw [h.len]; exact hi)
          rw [List.getElem?_map, List.getElem?_range hi, hx]
          simp [hc i x hx]
        · rw [List.getElem?_eq_none (by simp; exact hi), List.getElem?_eq_none (by rw [h.len]; exact hi)]
      show (val 4294967296 _).toNat = _
      rw [e]
    · obtain rfl : n = 0 := by omega
      have : xs = [] := List.eq_nil_of_length_eq_zero h.len
      subst this
      rfl
set_option maxRecDepth 20000 in
set_option maxHeartbeats 4000000 in
theorem put3_any {w : World} {B : Nat} {s : Bool} {A : Option Addr} {n c : Nat} {xs : List Int} (hs : Sl .u32 w B A n c xs) (hB : B ≤ w.heap.size) (hx : Dg 4294967296 xs) (hn : n ≤ 1000000) :
    Calls Tryz.prog 38 #[.agg #[.bool s, .slice A n c]] w (TextI w (putI (ival s xs))) := by
  have HX := Lib.hid hx
  have HS := Lib.hid hs
  generalize hN : ival s xs = N
  have HN := Lib.hid hN
  clear hx hs hN
  go_enter Tryz.func38, Tryz.ntmps38
  go_wp2_with fail
  refine (plain3_any (HS.out.alloc hB _) (by rw [size_one]; omega) HX.out).mono ?_
  rintro e w6 ⟨sa, X, A3, n3, c3, rfl, sX, dX, rX, vX, lX, hb⟩
  rw [HN.out] at vX
  obtain ⟨q0, q1, q2, q3, hlt, hb6⟩ := box_new hb
  have BX6 := Lib.hid (Boxed.put (show Boxed w6 w.heap.size _ _ from ⟨q0, q1, q2, q3⟩) (.bool sa) (.slice A3 n3 c3))
  have B6 := Lib.hid ((hb6.setCell (p := ⟨w.heap.size, 0, none⟩) (Nat.le_refl _) (.bool sa)).setCell (p := ⟨w.heap.size, 1, none⟩) (Nat.le_refl _) (.slice A3 n3 c3))
  have S6 := (sX.setCell (p := ⟨w.heap.size, 0, none⟩) hB (.bool sa)).setCell (p := ⟨w.heap.size, 1, none⟩) hB (.slice A3 n3 c3)
  have hlt6 : w.heap.size < ((w6.setCell ⟨w.heap.size, 0, none⟩ (.bool sa)).setCell ⟨w.heap.size, 1, none⟩ (.slice A3 n3 c3)).heap.size := by rw [size_set, size_set]; exact hlt
  clear hb sX hb6 hlt
  go_wp2_with fail
  generalize (w6.setCell ⟨w.heap.size, 0, none⟩ (.bool sa)).setCell ⟨w.heap.size, 1, none⟩ (.slice A3 n3 c3) = W7 at BX6 B6 S6 hlt6 ⊢
  clear q0 q1 q2 q3
  have hx0 := val_nonneg (β := 4294967296) (by decide) dX
  have hN10 : (val 4294967296 X).toNat < 10 ^ (10 * n3) := by
    have h1 := val_lt (β := 4294967296) (by decide) dX
    rw [S6.len] at h1
    have h2 : (4294967296 : Int) ^ n3 ≤ (10 ^ 10) ^ n3 := pow_base (by decide) (by decide) n3
    rw [← Int.pow_mul] at h2
    have h3 : ((10 ^ (10 * n3) : Nat) : Int) = (10 : Int) ^ (10 * n3) := Int.natCast_pow 10 _
    omega
  have HLEN := Lib.hid (decL_len _ _ hN10)
  have HT := Lib.hid (rgt_tr rX)
  clear hN10
  go_loopw [3, 4] (fun sv mv wr => ∃ (m c4 : Nat) (A4 : Option Addr) (Y : List Int) (t : ByteArray), mv = .slice A4 m c4 ∧ sv = .string t ∧ m ≤ n3 ∧ Sl .u32 wr wr.heap.size A4 m c4 Y ∧ Dg 4294967296 Y ∧ Tr Y ∧ Below W7.heap.size W7 wr ∧ decL (val 4294967296 X).toNat = decL (val 4294967296 Y).toNat ++ t.data.toList) (fun _ mv wr => rdu wr mv)
  case atStart => exact ⟨n3, c3, A3, X, _, rfl, rfl, Nat.le_refl _, S6.more (Nat.le_trans hB B6.out.size), dX, HT.out, Below.refl _ _, by show _ = _ ++ []; simp⟩
  case round =>
    obtain ⟨m, c4, A4, Y, t, rfl, rfl, hm, h4, dY, tY, hb, hdec⟩ := hrel
    by_cases h0 : m = 0
    · subst h0
      have hY : Y = [] := List.eq_nil_of_length_eq_zero h4.len
      subst hY
      have HD := Lib.hid (show t.data.toList = decL (val 4294967296 X).toNat by
        rw [hdec]
        show _ = decL 0 ++ _
        rw [decL_zero]; rfl)
      have BX := Lib.hid (Boxed.below BX6.out hb hlt6)
      have BW := Lib.hid (B6.out.trans (hb.mono B6.out.size))
      have hts : t.size ≤ 10 * n3 := by
        have h1 := HLEN.out
        have h2 := HD.out
        rw [← h2] at h1
        have e : t.data.toList.length = t.size := by simp
        omega
      have hxpos : sa = true → 0 < val 4294967296 X := fun h => rgt_pos dX rX h
      clear hdec h4 hb BX6 dY tY
      by_cases hz : val 4294967296 X = 0
      · have hte : t = ⟨#[]⟩ := by
          have := HD.out
          rw [hz, show (0 : Int).toNat = 0 from rfl, decL_zero] at this
          exact ByteArray.ext (Array.toList_inj.1 (by rw [this]))
        subst hte
        have HF := Lib.hid (show putI N = [48] by
          have hs : sa = false := by cases sa with
            | false => rfl
            | true => have := hxpos rfl; omega
          have : N = 0 := by rw [← vX, hs, sgv_false, hz]
          rw [this]; rfl)
        clear hz hxpos vX hts
        go_wp2_with fail
        go_ret
        exact ⟨_, rfl, by rw [HF.out], BW.out⟩
      · have hte : t.data.toList ≠ [] := by
          rw [HD.out, decL_pos (by omega)]
          simp
        have hemp : t.toList.isEmpty = false := by
          rw [ByteArray.toList_eq, ← Bool.not_eq_true, List.isEmpty_iff]
          exact hte
        have HP := Lib.hid (show putL (val 4294967296 X).toNat = t.data.toList by rw [HD.out]; unfold putL; rw [if_neg (by omega)])
        obtain ⟨q0, q1, q2, q3⟩ := BX.out
        cases sa
        · have HF := Lib.hid (show putI N = t.data.toList by
            have e : N = val 4294967296 X := by rw [← vX]; rfl
            unfold putI
            rw [if_neg (by omega), ← HP.out, e, show (val 4294967296 X).natAbs = (val 4294967296 X).toNat by omega])
          clear hz hxpos vX hte
          go_wp2_with fail
          go_ret
          exact ⟨_, rfl, by rw [HF.out], BW.out⟩
        · have HF := Lib.hid (show putI N = 45 :: t.data.toList by
            have e : N = -(val 4294967296 X) := by rw [← vX]; rfl
            have := hxpos rfl
            unfold putI
            rw [if_pos (by omega), ← HP.out, e, show (-(val 4294967296 X)).natAbs = (val 4294967296 X).toNat by omega])
          clear hz hxpos vX hte
          go_wp2_with fail
          go_ret
          exact ⟨_, rfl, by rw [HF.out]; first | rfl | (rw [ByteArray.data_append, Array.toList_append]; rfl), BW.out⟩
    · have hpos : 0 < val 4294967296 Y := by
        have h1 := val_nonneg (β := 4294967296) (by decide) dY
        rcases Int.lt_or_eq_of_le h1 with h | h
        · exact h
        · have := Tr.zero (β := 4294967296) (by decide) dY tY h.symm
          have := h4.len
          simp_all
      have hts : t.size ≤ 10 * n3 := by
        have := HLEN.out
        rw [hdec, List.length_append] at this
        have e : t.data.toList.length = t.size := by simp
        omega
      have hmeas := Lib.hid h4.rdu
      have hml : Y.length = m := h4.len
      have HP := Lib.hid hpos
      have HDEC := Lib.hid hdec
      clear hdec hpos
      go_wp2_with fail
      refine (refDivSmall_any h4 (Nat.le_refl _) dY (by omega) (by omega)).mono ?_
      rintro e w2 ⟨qs, A5, n5, c5, hq, rfl, ho5, hb2⟩
      have hr := Lib.hid (show 0 ≤ val 4294967296 Y % 10 ∧ val 4294967296 Y % 10 < 10 by omega)
      obtain ⟨r, hrd⟩ : ∃ r, r = val 4294967296 Y % 10 := ⟨_, rfl⟩
      rw [← hrd]
      have HRD := Lib.hid hrd
      have hr10 : 0 ≤ r ∧ r < 10 := by have := hr.out; omega
      have hw1 : IntKind.u32.wrap (48 + r) = 48 + r := by rw [IntKind.wrap_u32]; omega
      have hw2 : IntKind.u8.wrap (48 + r) = 48 + r := by rw [IntKind.wrap_u8]; omega
      have hw3 : IntKind.u8.wrap (IntKind.u32.wrap (48 + r)) = 48 + r := by rw [hw1]; exact hw2
      have HQ := Lib.hid hq
      have HO5 := Lib.hid ho5
      have HB2 := Lib.hid hb2
      clear hrd hq ho5 hb2 h4
      have hcn : ((UInt8.ofNat (48 + r.toNat)).toNat : Int) = 48 + r := by
        have : (UInt8.ofNat (48 + r.toNat)).toNat = 48 + r.toNat := by rw [UInt8.toNat_ofNat']; omega
        rw [this]; omega
      have hconv : (convert 99 9 (.slice (some ⟨w2.heap.size, 0, none⟩) 1 1)).run Tryz.prog (w2.alloc (.cells #[.int .u8 (48 + r)] 5)) = .ok (.string ⟨#[UInt8.ofNat (48 + r.toNat)]⟩) (w2.alloc (.cells #[.int .u8 (48 + r)] 5)) := by
        refine run_convert_bytes_back (P := Tryz.prog) _ 99 9 5 ⟨w2.heap.size, 0, none⟩ 1 [UInt8.ofNat (48 + r.toNat)] Tryz.underlying99 Tryz.underlying5 Tryz.underlying9 fun j hj => ?_
        have hj0 : j = 0 := by simpa using hj
        subst hj0
        have h := (Sl.new1 .u8 w2 (48 + r) 5).news 0 _ rfl
        rw [show (([UInt8.ofNat (48 + r.toNat)])[0].toNat : Int) = 48 + r from hcn]
        exact h
      generalize hcc : UInt8.ofNat (48 + r.toNat) = cc at hconv
      have HCC := Lib.hid hcc
      have hl5 : n5 ≤ m := by
        have h1 := HQ.out.len_le (k := m) (by decide) (by
          have h2 := val_lt (β := 4294967296) (by decide) dY
          have h3 := HP.out
          have h5 : val 4294967296 Y / 10 ≤ val 4294967296 Y := by omega
          rw [hml] at h2
          omega)
        have := HO5.out.len
        omega
      have hms : rdu (w2.alloc (.cells #[.int .u8 (48 + r)] 5)) (.slice A5 n5 c5) < rdu wr (.slice A4 m c4) := by
        rw [(HO5.out.sl.alloc (Nat.le_refl _) _).rdu, hmeas.out, HQ.out.val]
        have := HP.out
        omega
      have HMS := Lib.hid hms
      have HD2 := Lib.hid (show decL (val 4294967296 X).toNat = decL (val 4294967296 qs).toNat ++ (cc :: t.data.toList) by
        rw [HDEC.out, decL_pos (show 0 < (val 4294967296 Y).toNat by have := HP.out; omega), HQ.out.val, show (val 4294967296 Y / 10).toNat = (val 4294967296 Y).toNat / 10 by have := HP.out; omega, List.append_assoc, ← HCC.out, HRD.out, show (val 4294967296 Y % 10).toNat = (val 4294967296 Y).toNat % 10 by have := HP.out; omega]
        rfl)
      have HSQ := Lib.hid ((HO5.out.alloc (.cells #[.int .u8 (48 + r)] 5)).sl)
      have HBN := Lib.hid ((hb.trans (HB2.out.mono hb.size)).alloc (hb.trans (HB2.out.mono hb.size)).size (.cells #[.int .u8 (48 + r)] 5))
      clear hcc hcn hms hb hw3
      go_wp2_with fail
      go_roundw
      case rel => exact ⟨n5, c5, A5, qs, _, rfl, rfl, by omega, HSQ.out, HQ.out.dg, HQ.out.tr, HBN.out, by rw [HD2.out, ByteArray.data_append, Array.toList_append]; rfl⟩
      case measure => exact HMS.out
end Go.Proofs.YtbjooeapjhaapaaGreatDoor
