/- big: Add, Sub, Neg, Abs: what each call answers. -/
import Derived.Test.YtbjooeapjhaapaaGreatDoorBStepB
namespace Go.Proofs.YtbjooeapjhaapaaGreatDoor
open Go Go.RowKit

theorem isum_two (s t : Bool) (xs ys : List Int) : isum [(s, xs), (t, ys)] = ival s xs + ival t ys := by simp [isum]
set_option maxRecDepth 20000 in
set_option maxHeartbeats 2000000 in
theorem badd_any {w : World} {B : Nat} {s t : Bool} {A A2 : Option Addr} {n c m c2 : Nat} {xs ys : List Int} (hs : Sl .u32 w B A n c xs) (ht : Sl .u32 w B A2 m c2 ys) (hB : B ≤ w.heap.size) (hx : Dg 4294967296 xs) (hy : Dg 4294967296 ys) (hn : n ≤ 1000000) (hm : m ≤ 1000000) :
    Calls Tryz.prog 11 #[.agg #[.bool s, .slice A n c], .agg #[.bool t, .slice A2 m c2]] w (NewI w (ival s xs + ival t ys)) := by
  obtain ⟨bX, bY, bR, hlt, _⟩ := box_new3 (w := w) (v0 := .bool s) (v1 := .slice A n c) (u0 := .bool t) (u1 := .slice A2 m c2) (x0 := .bool false) (x1 := .slice none 0 0) (t := 24) (t2 := 24) (t3 := 24) (Below.refl _ _)
  have hb0 : Below w.heap.size w (((w.alloc (.cells #[.bool s, .slice A n c] 24)).alloc (.cells #[.bool t, .slice A2 m c2] 24)).alloc (.cells #[.bool false, .slice none 0 0] 24)) :=
    (((Below.refl _ _).alloc (Nat.le_refl _) _).alloc (by rw [size_one]; omega) _).alloc (by rw [size_two]; omega) _
  have hz := size_three w (.cells #[.bool s, .slice A n c] 24) (.cells #[.bool t, .slice A2 m c2] 24) (.cells #[.bool false, .slice none 0 0] 24)
  have HP := Lib.hid (SlB.two (s := s) (t := t) _ (Nat.le_trans hB hb0.size) (hs.below hb0 hB) (ht.below hb0 hB) 24 _ hz)
  have BR := Lib.hid bR
  have HB := Lib.hid hb0
  have hl1 := hs.len
  have hl2 := ht.len
  clear hs ht hb0 bX bY bR hlt
  go_enter Tryz.func11, Tryz.ntmps11
  go_wp2_with fail
  generalize ((w.alloc (.cells #[.bool s, .slice A n c] 24)).alloc (.cells #[.bool t, .slice A2 m c2] 24)).alloc (.cells #[.bool false, .slice none 0 0] 24) = W0 at HP BR HB hz ⊢
  refine (bsum_any (L := 1000000) HP.out (by rw [size_one]; omega) (by simp [hx, hy]) (by simp; omega) (by omega) (by omega)).mono ?_
  rintro e w1 ⟨sc, Z, A7, n7, c7, hW, rfl, ho, hb⟩
  rw [isum_two] at hW
  have hb' := below_a1 hb
  have HW := Lib.hid hW
  have HO := Lib.hid (ho.lower (show w.heap.size + 3 ≤ _ by rw [size_one]; omega))
  have HB1 := Lib.hid (HB.out.trans (hb'.mono HB.out.size))
  obtain ⟨p0, p1, p2, p3⟩ := Boxed.below BR.out hb' (by omega)
  clear hW ho hb hb' HP
  go_wp2_with fail
  refine bodyPost_ret (v := .agg #[.bool sc, .slice A7 n7 c7]) ?_ rfl (NewI.put HW.out (show w.heap.size ≤ w.heap.size + 2 by omega) HO.out (by omega) HB1.out)
  simp only [results, Tryz.results11]
  go_simp
set_option maxRecDepth 20000 in
set_option maxHeartbeats 2000000 in
theorem bsub_any {w : World} {B : Nat} {s t : Bool} {A A2 : Option Addr} {n c m c2 : Nat} {xs ys : List Int} (hs : Sl .u32 w B A n c xs) (ht : Sl .u32 w B A2 m c2 ys) (hB : B ≤ w.heap.size) (hx : Dg 4294967296 xs) (hy : Dg 4294967296 ys) (hn : n ≤ 1000000) (hm : m ≤ 1000000) :
    Calls Tryz.prog 12 #[.agg #[.bool s, .slice A n c], .agg #[.bool t, .slice A2 m c2]] w (NewI w (ival s xs - ival t ys)) := by
  obtain ⟨t', A2', m', c2', ys', hp⟩ := PlOut.ex t A2 m c2 ys
  obtain ⟨f1, f2, f3, f4, f5⟩ := hp.facts ht hy
  have ht' := ival_turned f1.len f3
  rw [f4] at ht'
  have HV := Lib.hid (show isum [(s, xs), (sgnOf (!t') m', ys')] = ival s xs - ival t ys by rw [isum_two, ht']; omega)
  obtain ⟨bX, bY, bR, hlt, _⟩ := box_new3 (w := w) (v0 := .bool s) (v1 := .slice A n c) (u0 := .bool t) (u1 := .slice A2 m c2) (x0 := .bool false) (x1 := .slice none 0 0) (t := 24) (t2 := 24) (t3 := 24) (Below.refl _ _)
  have hb0 : Below w.heap.size w (((w.alloc (.cells #[.bool s, .slice A n c] 24)).alloc (.cells #[.bool t, .slice A2 m c2] 24)).alloc (.cells #[.bool false, .slice none 0 0] 24)) :=
    (((Below.refl _ _).alloc (Nat.le_refl _) _).alloc (by rw [size_one]; omega) _).alloc (by rw [size_two]; omega) _
  have hz := size_three w (.cells #[.bool s, .slice A n c] 24) (.cells #[.bool t, .slice A2 m c2] 24) (.cells #[.bool false, .slice none 0 0] 24)
  have HS := Lib.hid ((hs.below hb0 hB).more (Nat.le_trans hB hb0.size))
  have HTS := Lib.hid ((ht.below hb0 hB).more (Nat.le_trans hB hb0.size))
  have HT := Lib.hid ((f1.below hb0 hB).more (Nat.le_trans hB hb0.size))
  have BX := Lib.hid bX
  have BY := Lib.hid bY
  have BR := Lib.hid bR
  have HB := Lib.hid hb0
  have HP := Lib.hid hp
  have hl1 := hs.len
  have hl2 := f1.len
  clear hs ht hb0 bX bY bR hlt f1 f3 f4 ht' hp
  go_enter Tryz.func12, Tryz.ntmps12
  go_wp2_with fail
  generalize ((w.alloc (.cells #[.bool s, .slice A n c] 24)).alloc (.cells #[.bool t, .slice A2 m c2] 24)).alloc (.cells #[.bool false, .slice none 0 0] 24) = W0 at HS HTS HT BX BY BR HB hz ⊢
  refine wp_region_tail [(2, STy.is (.pointer (some ⟨w.heap.size, 0, none⟩))), (3, STy.is (.pointer (some ⟨w.heap.size + 1, 0, none⟩))), (5, STy.is (.agg #[.bool s, .slice A n c])), (6, STy.is (.agg #[.bool t, .slice A2 m c2])), (7, STy.is (sgd t' A2' m' c2')), (8, STy.is (.agg #[.bool (sgnOf (!t') m'), .slice A2' m' c2'])),
      (9, STy.nums [(s, xs), (sgnOf (!t') m', ys')]), (10, STy.newI W0.heap.size (ival s xs - ival t ys))]
    [2, 3] [] 11 6 (by kernel_rfl) rfl (by kernel_rfl) rfl trivial ⟨rfl, rfl, trivial⟩ ?ok ?fin
  case ok =>
    repeat' first
      | exact OpSteps.nil
      | refine OpSteps.cons ?_ ?_
      | exact stb_box (fun _ _ h => h) (cell_on BX.out.1 (by omega)) (cell_on BX.out.2.1 (by omega)) (fun _ => rfl)
      | exact stb_box (fun _ _ h => h) (cell_on BY.out.1 (by omega)) (cell_on BY.out.2.1 (by omega)) (fun _ => rfl)
      | exact st_call1 entersb_counted (T0 := fun _ v => v = .agg #[.bool t, .slice A2 m c2]) (fun _ _ h => h) (fun W v0 hb h0 => by
          subst h0
          refine (counted_out HP.out (HTS.out.below hb (Nat.le_refl _)) hb.size).mono ?_
          rintro e w' ⟨rfl, hb'⟩
          exact ⟨⟨_, rfl, rfl⟩, hb'⟩)
      | exact st_call1 entersb_turned (T0 := fun _ v => v = sgd t' A2' m' c2') (fun _ _ h => h) (fun W v0 hb h0 => by
          subst h0
          refine turned_any.mono ?_
          rintro e w' ⟨rfl, hb'⟩
          exact ⟨⟨_, rfl, rfl⟩, hb'⟩)
      | exact stb_pair (fun _ _ h => h) (fun _ _ h => h) HS.out HT.out (fun _ _ h => h)
      | exact st_call1 entersb_sum (T0 := (STy.nums [(s, xs), (sgnOf (!t') m', ys')]).holds) (fun _ _ h => h) (fun W v0 hb h0 => by
          obtain ⟨A5, n5, c5, rfl, h5⟩ := h0
          have hn5 := h5.len
          refine (bsum_any (L := 1000000) h5 (Nat.le_refl _) (by simp [hx, f2]) (by simp; omega) (by omega) (by simp at hn5; omega)).mono ?_
          rintro e w' ⟨sc, Z, A7, n7, c7, hW, rfl, ho, hb'⟩
          rw [HV.out] at hW
          exact ⟨⟨_, rfl, sc, Z, A7, n7, c7, rfl, hW, ho.lower hb.size⟩, hb'⟩)
  case fin =>
    intro v w' ho hb
    obtain ⟨sc, Z, A7, n7, c7, e10, hW, hO⟩ := ho.slot (d := 10) (by simp [dstD])
    clear ho
    simp only [List.take, List.map_cons, List.map_nil, dstD, Option.getD_some, putAll, Act.put, List.setIfInBounds_toArray, List.set_cons_succ, List.set_cons_zero, e10]
    clear e10
    obtain ⟨q0, q1, q2, q3⟩ := Boxed.below BR.out hb (by omega)
    have HW := Lib.hid hW
    have HO := Lib.hid hO
    have HB1 := Lib.hid (HB.out.trans (hb.mono HB.out.size))
    clear hW hO hb
    go_wp2_with fail
    refine bodyPost_ret (v := .agg #[.bool sc, .slice A7 n7 c7]) ?_ rfl (NewI.put HW.out (show w.heap.size ≤ w.heap.size + 2 by omega) HO.out (by omega) HB1.out)
    simp only [results, Tryz.results12]
    go_simp
set_option maxRecDepth 20000 in
set_option maxHeartbeats 2000000 in
theorem bneg_any {w : World} {B : Nat} {s : Bool} {A : Option Addr} {n c : Nat} {xs : List Int} (hs : Sl .u32 w B A n c xs) (hB : B ≤ w.heap.size) (hx : Dg 4294967296 xs) (hn : n ≤ 1000000) :
    Calls Tryz.prog 14 #[.agg #[.bool s, .slice A n c]] w (NewI w (-ival s xs)) := by
  have HX := Lib.hid hx
  clear hx
  obtain ⟨bX, bR, hlt, _⟩ := box_new2 (w := w) (v0 := .bool s) (v1 := .slice A n c) (u0 := .bool false) (u1 := .slice none 0 0) (t := 24) (t2 := 24) (Below.refl _ _)
  have hb0 : Below w.heap.size w ((w.alloc (.cells #[.bool s, .slice A n c] 24)).alloc (.cells #[.bool false, .slice none 0 0] 24)) := ((Below.refl _ _).alloc (Nat.le_refl _) _).alloc (by rw [size_one]; omega) _
  have hz := size_two w (.cells #[.bool s, .slice A n c] 24) (.cells #[.bool false, .slice none 0 0] 24)
  have HS := Lib.hid (hs.below hb0 hB)
  have BR := Lib.hid bR
  have HB := Lib.hid hb0
  clear hs hb0 bX bR hlt
  go_enter Tryz.func14, Tryz.ntmps14
  go_wp2_with fail
  generalize (w.alloc (.cells #[.bool s, .slice A n c] 24)).alloc (.cells #[.bool false, .slice none 0 0] 24) = W0 at HS BR HB hz ⊢
  refine (bsub_any (Sl.nil (B := B)) HS.out (Nat.le_trans hB HB.out.size) Dg.nil HX.out (by omega) hn).mono ?_
  rintro e w1 ⟨sc, Z, A7, n7, c7, hW, rfl, ho, hb⟩
  rw [ival_nil, Int.zero_sub] at hW
  have HW := Lib.hid hW
  have HO := Lib.hid (ho.lower (show w.heap.size + 2 ≤ _ by omega))
  have HB1 := Lib.hid (HB.out.trans (hb.mono HB.out.size))
  obtain ⟨p0, p1, p2, p3⟩ := Boxed.below BR.out hb (by omega)
  clear hW ho hb HS
  go_wp2_with fail
  refine bodyPost_ret (v := .agg #[.bool sc, .slice A7 n7 c7]) ?_ rfl (NewI.put HW.out (Nat.le_succ _) HO.out (by omega) HB1.out)
  simp only [results, Tryz.results14]
  go_simp
set_option maxRecDepth 20000 in
set_option maxHeartbeats 2000000 in
theorem babs_any {w : World} {B : Nat} {s : Bool} {A : Option Addr} {n c : Nat} {xs : List Int} (hs : Sl .u32 w B A n c xs) (hB : B ≤ w.heap.size) (hx : Dg 4294967296 xs) (hn : n ≤ 1000000) :
    Calls Tryz.prog 15 #[.agg #[.bool s, .slice A n c]] w (NewI w ((ival s xs).natAbs : Int)) := by
  obtain ⟨s', A', n', c', xs', hp⟩ := PlOut.ex s A n c xs
  obtain ⟨f1, f2, f3, f4, f5⟩ := hp.facts hs hx
  have hv := val_nonneg (β := 4294967296) (by decide) f2
  have HV := Lib.hid (show (((ival s xs).natAbs : Nat) : Int) = val 4294967296 xs' by rw [← f4]; exact sgv_abs hv)
  have HF := Lib.hid f2
  obtain ⟨bX, bR, hlt, _⟩ := box_new2 (w := w) (v0 := .bool s) (v1 := .slice A n c) (u0 := .bool false) (u1 := .slice none 0 0) (t := 24) (t2 := 24) (Below.refl _ _)
  have hb0 : Below w.heap.size w ((w.alloc (.cells #[.bool s, .slice A n c] 24)).alloc (.cells #[.bool false, .slice none 0 0] 24)) := ((Below.refl _ _).alloc (Nat.le_refl _) _).alloc (by rw [size_one]; omega) _
  have hz := size_two w (.cells #[.bool s, .slice A n c] 24) (.cells #[.bool false, .slice none 0 0] 24)
  have HS := Lib.hid (hs.below hb0 hB)
  have HF1 := Lib.hid (f1.below hb0 hB)
  have BR := Lib.hid bR
  have HB := Lib.hid hb0
  have HP := Lib.hid hp
  clear hs hb0 bX bR hlt hp f1 f2 f3 f4 hv hx
  go_enter Tryz.func15, Tryz.ntmps15
  go_wp2_with fail
  generalize (w.alloc (.cells #[.bool s, .slice A n c] 24)).alloc (.cells #[.bool false, .slice none 0 0] 24) = W0 at HS HF1 BR HB hz ⊢
  refine (counted_out HP.out HS.out (Nat.le_trans hB HB.out.size)).mono ?_
  rintro e w1 ⟨rfl, hb⟩
  have HF2 := Lib.hid (HF1.out.below (hb.mono HB.out.size) hB)
  have HB1 := Lib.hid (HB.out.trans (hb.mono HB.out.size))
  have BR1 := Lib.hid (Boxed.below BR.out hb (by omega))
  have hz1 := hb.size
  clear hb HS HP HF1 HB BR
  go_wp2_with (first | simp only [rung_field] | simp only [runb_field1])
  refine (Trim_any HF2.out (by omega)).mono ?_
  rintro e w2 ⟨A7, n7, c7, rfl, ho, hb⟩
  have hl := ho.len
  have HO := Lib.hid (ho.lower (show w.heap.size + 2 ≤ _ by omega))
  have HW := Lib.hid (show Whole ((ival s xs).natAbs : Int) (sgnOf false n7) (tl xs') by
    have hr : Row 4294967296 (val 4294967296 xs') (tl xs') := ⟨tl_Dg HF.out, tl_idem _, tl_val _ _⟩
    have := Whole.num (s := false) hr (row_dig hr) hl
    rw [sgv_false, ← HV.out] at this
    exact this)
  have HB2 := Lib.hid (HB1.out.trans (hb.mono HB1.out.size))
  have BR2 := Lib.hid (BR1.out.below hb (by omega))
  have hz2 := hb.size
  clear hb ho hl HB1 BR1 HF2
  go_wp2_with fail
  refine number_any.mono ?_
  rintro e w3 ⟨rfl, hb⟩
  have HO3 := Lib.hid (HO.out.below hb)
  have HB3 := Lib.hid (HB2.out.trans (hb.mono HB2.out.size))
  obtain ⟨p0, p1, p2, p3⟩ := BR2.out.below hb (by omega)
  clear hb HO
  go_wp2_with fail
  refine bodyPost_ret (v := .agg #[.bool (sgnOf false n7), .slice A7 n7 c7]) ?_ rfl (NewI.put HW.out (Nat.le_succ _) HO3.out (by omega) HB3.out)
  simp only [results, Tryz.results15]
  go_simp
end Go.Proofs.YtbjooeapjhaapaaGreatDoor
/- big: Mul: what it answers. -/
namespace Go.Proofs.YtbjooeapjhaapaaGreatDoor
open Go Go.RowKit

/-- Two new boxes, both written over. -/
theorem two_boxes {w : World} {r1 r2 k : Nat} {T1 T2 : TypeId} (u0 u1 v0 v1 : Value) (h1 : w.heap[r1]? = some (.cells #[.bool false, .slice none 0 0] T1 (0, 0))) (h2 : w.heap[r2]? = some (.cells #[.bool false, .slice none 0 0] T2 (0, 0))) (hne : r1 ≠ r2) (k1 : k ≤ r1) (k2 : k ≤ r2) :
    Boxed ((((w.setCell ⟨r1, 0, none⟩ u0).setCell ⟨r1, 1, none⟩ u1).setCell ⟨r2, 0, none⟩ v0).setCell ⟨r2, 1, none⟩ v1) r1 u0 u1 ∧ Boxed ((((w.setCell ⟨r1, 0, none⟩ u0).setCell ⟨r1, 1, none⟩ u1).setCell ⟨r2, 0, none⟩ v0).setCell ⟨r2, 1, none⟩ v1) r2 v0 v1 ∧
    Below k w ((((w.setCell ⟨r1, 0, none⟩ u0).setCell ⟨r1, 1, none⟩ u1).setCell ⟨r2, 0, none⟩ v0).setCell ⟨r2, 1, none⟩ v1) ∧ ((((w.setCell ⟨r1, 0, none⟩ u0).setCell ⟨r1, 1, none⟩ u1).setCell ⟨r2, 0, none⟩ v0).setCell ⟨r2, 1, none⟩ v1).heap.size = w.heap.size :=
  ⟨(((boxed_of h1).put u0 u1).other hne 0 v0).other hne 1 v1, (((boxed_of h2).other hne.symm 0 u0).other hne.symm 1 u1).put v0 v1,
    ((((Below.refl _ _).setCell (p := ⟨r1, 0, none⟩) k1 u0).setCell (p := ⟨r1, 1, none⟩) k1 u1).setCell (p := ⟨r2, 0, none⟩) k2 v0).setCell (p := ⟨r2, 1, none⟩) k2 v1, by rw [size_set, size_set, size_set, size_set]⟩
/-- A natural of value N, of the call's own since block B. -/
def STy.ownN (B : Nat) (N : Int) : STy := ⟨fun w v => ∃ A n c xs, v = .slice A n c ∧ Row 4294967296 N xs ∧ Own .u32 66 w B A n c xs, fun ⟨A, n, c, xs, e, h, ho⟩ hb => ⟨A, n, c, xs, e, h, ho.below hb⟩⟩
theorem entersb_nmul : Enters Tryz.prog 52 := fun _ _ => by kernel_rfl
set_option maxRecDepth 20000 in
set_option maxHeartbeats 4000000 in
theorem bmul_any {w : World} {B : Nat} {s t : Bool} {A A2 : Option Addr} {n c m c2 : Nat} {xs ys : List Int} (hs : Sl .u32 w B A n c xs) (ht : Sl .u32 w B A2 m c2 ys) (hB : B ≤ w.heap.size) (hx : Dg 4294967296 xs) (hy : Dg 4294967296 ys) (hn : n ≤ 1000000) (hm : m ≤ 1000000) :
    Calls Tryz.prog 13 #[.agg #[.bool s, .slice A n c], .agg #[.bool t, .slice A2 m c2]] w (NewI w (ival s xs * ival t ys)) := by
  obtain ⟨s', A', n', c', xs', hp⟩ := PlOut.ex s A n c xs
  obtain ⟨t', A2', m', c2', ys', hq⟩ := PlOut.ex t A2 m c2 ys
  obtain ⟨f1, f2, f3, f4, f5⟩ := hp.facts hs hx
  obtain ⟨g1, g2, g3, g4, g5⟩ := hq.facts ht hy
  have HV := Lib.hid (show sgv (s' != t') (val 4294967296 xs' * val 4294967296 ys') = ival s xs * ival t ys by rw [← f4, ← g4, sgv_mul])
  obtain ⟨bX, bY, bR, hlt, _⟩ := box_new3 (w := w) (v0 := .bool s) (v1 := .slice A n c) (u0 := .bool t) (u1 := .slice A2 m c2) (x0 := .bool false) (x1 := .slice none 0 0) (t := 24) (t2 := 24) (t3 := 24) (Below.refl _ _)
  have hb0 : Below w.heap.size w (((w.alloc (.cells #[.bool s, .slice A n c] 24)).alloc (.cells #[.bool t, .slice A2 m c2] 24)).alloc (.cells #[.bool false, .slice none 0 0] 24)) :=
    (((Below.refl _ _).alloc (Nat.le_refl _) _).alloc (by rw [size_one]; omega) _).alloc (by rw [size_two]; omega) _
  have hz := size_three w (.cells #[.bool s, .slice A n c] 24) (.cells #[.bool t, .slice A2 m c2] 24) (.cells #[.bool false, .slice none 0 0] 24)
  have HS := Lib.hid ((hs.below hb0 hB).more (Nat.le_trans hB hb0.size))
  have HT := Lib.hid ((ht.below hb0 hB).more (Nat.le_trans hB hb0.size))
  have F1 := Lib.hid ((f1.below hb0 hB).more (Nat.le_trans hB hb0.size))
  have G1 := Lib.hid ((g1.below hb0 hB).more (Nat.le_trans hB hb0.size))
  have F2 := Lib.hid f2
  have G2 := Lib.hid g2
  have BX := Lib.hid bX
  have BY := Lib.hid bY
  have BR := Lib.hid bR
  have HB := Lib.hid hb0
  have HP := Lib.hid hp
  have HQ := Lib.hid hq
  clear hs ht hb0 bX bY bR hlt f1 f2 f3 f4 g1 g2 g3 g4 hp hq hx hy
  go_enter Tryz.func13, Tryz.ntmps13
  go_wp2_with fail
  generalize ((w.alloc (.cells #[.bool s, .slice A n c] 24)).alloc (.cells #[.bool t, .slice A2 m c2] 24)).alloc (.cells #[.bool false, .slice none 0 0] 24) = W0 at HS HT F1 G1 BX BY BR HB hz ⊢
  refine wp_region_chain [(2, STy.is (.pointer (some ⟨w.heap.size, 0, none⟩))), (3, STy.is (.pointer (some ⟨w.heap.size + 1, 0, none⟩))), (7, STy.is (.agg #[.bool s, .slice A n c])), (8, STy.is (sgd s' A' n' c')), (9, STy.is (.agg #[.bool t, .slice A2 m c2])), (10, STy.is (sgd t' A2' m' c2')),
      (5, STy.nbox W0.heap.size 74), (6, STy.nbox W0.heap.size 74)]
    [2, 3] [] 22 6 (by kernel_rfl) (by kernel_rfl) rfl trivial ⟨rfl, rfl, trivial⟩ ?ok ?al ?fin
  case ok =>
    repeat' first
      | exact OpStepsG.nil
      | refine OpStepsG.run ?_ ?_
      | exact stb_box (fun _ _ h => h) (cell_on BX.out.1 (by omega)) (cell_on BX.out.2.1 (by omega)) (fun _ => rfl)
      | exact stb_box (fun _ _ h => h) (cell_on BY.out.1 (by omega)) (cell_on BY.out.2.1 (by omega)) (fun _ => rfl)
      | exact st_call1 entersb_counted (T0 := fun _ v => v = .agg #[.bool s, .slice A n c]) (fun _ _ h => h) (fun W v0 hb h0 => by
          subst h0
          refine (counted_out HP.out (HS.out.below hb (Nat.le_refl _)) hb.size).mono ?_
          rintro e w' ⟨rfl, hb'⟩
          exact ⟨⟨_, rfl, rfl⟩, hb'⟩)
      | exact st_call1 entersb_counted (T0 := fun _ v => v = .agg #[.bool t, .slice A2 m c2]) (fun _ _ h => h) (fun W v0 hb h0 => by
          subst h0
          refine (counted_out HQ.out (HT.out.below hb (Nat.le_refl _)) hb.size).mono ?_
          rintro e w' ⟨rfl, hb'⟩
          exact ⟨⟨_, rfl, rfl⟩, hb'⟩)
      | exact stg_alloc (fun _ _ h => h)
  case al =>
    repeat' first
      | exact AllocsOk.nil
      | refine AllocsOk.cons ?_ ?_
      | exact fun T h ρ w => run_allocg ρ w
      | exact fun T h => nomatch h
  case fin =>
    intro v w' ho ha hb
    obtain ⟨r1, e5, h51, h52, h53⟩ := ho.slot (d := 5) (by simp [dstD])
    obtain ⟨r2, e6, h61, h62, h63⟩ := ho.slot (d := 6) (by simp [dstD])
    have e8 : v 8 = sgd s' A' n' c' := ho.slot (d := 8) (by simp [dstD])
    have e10 : v 10 = sgd t' A2' m' c2' := ho.slot (d := 10) (by simp [dstD])
    have hne : r1 ≠ r2 := fun h => ha 4 5 _ _ _ _ (by decide) rfl rfl rfl rfl rfl rfl (by show v 5 = v 6; rw [e5, e6, h])
    clear ho ha
    obtain ⟨d1, d2, d3, d4⟩ := two_boxes (k := W0.heap.size) (.bool s') (.slice A' n' c') (.bool t') (.slice A2' m' c2') h53 h63 hne h51 h61
    have hne' := hne.symm
    obtain ⟨p0, p1, p2, p3⟩ := boxed_of h53
    obtain ⟨q0, q1, q2, q3⟩ := boxed_of h63
    have D1 := Lib.hid d1
    have D2 := Lib.hid d2
    have D3 := Lib.hid (hb.trans (d3.mono (Nat.le_refl _)))
    clear d1 d2 d3 h53 h63 hb
    simp only [List.take, List.drop, List.map_cons, List.map_nil, dstD, Option.getD_some, putAll, Act.put, List.setIfInBounds_toArray, List.set_cons_succ, List.set_cons_zero, e5, e6, e8, e10]
    go_wp2_with fail
    generalize (((w'.setCell ⟨r1, 0, none⟩ (.bool s')).setCell ⟨r1, 1, none⟩ (.slice A' n' c')).setCell ⟨r2, 0, none⟩ (.bool t')).setCell ⟨r2, 1, none⟩ (.slice A2' m' c2') = W1 at D1 D2 D3 d4 ⊢
    clear p0 p1 p2 p3 q0 q1 q2 q3 e5 e6 e8 e10 hne hne'
    have hr1 : r1 < W1.heap.size := by omega
    have hr2 : r2 < W1.heap.size := by omega
    have F3 := Lib.hid ((F1.out.below D3.out (Nat.le_refl _)).more D3.out.size)
    have G3 := Lib.hid ((G1.out.below D3.out (Nat.le_refl _)).more D3.out.size)
    have hf := F1.out.len
    have hg := G1.out.len
    refine wp_region_tail [(5, STy.is (.pointer (some ⟨r1, 0, none⟩))), (6, STy.is (.pointer (some ⟨r2, 0, none⟩))), (11, STy.is (sgd s' A' n' c')), (12, STy.is (sgd t' A2' m' c2')), (13, STy.is (.bool (s' != t'))), (14, STy.is (.pointer (some ⟨r1, 0, none⟩))), (15, STy.is (.pointer (some ⟨r1, 1, none⟩))), (16, STy.is (.slice A' n' c')),
        (17, STy.is (.pointer (some ⟨r2, 0, none⟩))), (18, STy.is (.pointer (some ⟨r2, 1, none⟩))), (19, STy.is (.slice A2' m' c2')), (20, STy.ownN W1.heap.size (val 4294967296 xs' * val 4294967296 ys')), (21, STy.newI W1.heap.size (ival s xs * ival t ys))]
      [5, 6] [] 22 11 (by kernel_rfl) rfl (by kernel_rfl) rfl trivial ⟨rfl, rfl, trivial⟩ ?ok ?fin
    case ok =>
      repeat' first
        | exact OpSteps.nil
        | refine OpSteps.cons ?_ ?_
        | exact stg_box (fun _ _ h => h) (cell_on D1.out.1 hr1) (cell_on D1.out.2.1 hr1) (fun _ => rfl)
        | exact stg_box (fun _ _ h => h) (cell_on D2.out.1 hr2) (cell_on D2.out.2.1 hr2) (fun _ => rfl)
        | exact stg_addr (fun _ _ h => h) (fun _ => rfl)
        | exact stb_addr1 (fun _ _ h => h) (fun _ => rfl)
        | exact st_cellU (fun _ _ h => h) (cell_on D1.out.2.1 hr1) (fun _ => rfl)
        | exact st_cellU (fun _ _ h => h) (cell_on D2.out.2.1 hr2) (fun _ => rfl)
        | exact st_call2 entersb_unlike (T0 := fun _ v => v = sgd s' A' n' c') (T1 := fun _ v => v = sgd t' A2' m' c2') (fun _ _ h => h) (fun _ _ h => h) (fun W v0 v1 hb h0 h1 => by
            subst h0
            subst h1
            refine unlike_any.mono ?_
            rintro e w' ⟨rfl, hb'⟩
            exact ⟨⟨_, rfl, rfl⟩, hb'⟩)
        | exact st_call2 entersb_nmul (T0 := fun _ v => v = .slice A' n' c') (T1 := fun _ v => v = .slice A2' m' c2') (fun _ _ h => h) (fun _ _ h => h) (fun W v0 v1 hb h0 h1 => by
            subst h0
            subst h1
            refine (Mul_any (F3.out.below hb (Nat.le_refl _)) (G3.out.below hb (Nat.le_refl _)) hb.size F2.out G2.out (by omega) (by omega)).mono ?_
            rintro e w' ⟨zs, hr, A7, n7, c7, rfl, ho, hb'⟩
            exact ⟨⟨_, rfl, A7, n7, c7, zs, rfl, hr, ho.lower hb.size⟩, hb'⟩)
        | exact st_call2 entersb_number (T0 := fun _ v => v = .bool (s' != t')) (T1 := (STy.ownN W1.heap.size (val 4294967296 xs' * val 4294967296 ys')).holds) (fun _ _ h => h) (fun _ _ h => h) (fun W v0 v1 hb h0 h1 => by
            subst h0
            obtain ⟨A7, n7, c7, zs, rfl, hr, ho⟩ := h1
            refine number_any.mono ?_
            rintro e w' ⟨rfl, hb'⟩
            have := Whole.num (s := s' != t') hr (row_dig hr) ho.len
            rw [HV.out] at this
            exact ⟨⟨_, rfl, _, zs, A7, n7, c7, rfl, this, ho.below hb'⟩, hb'⟩)
    case fin =>
      intro v w' ho hb
      obtain ⟨sc, Z, A7, n7, c7, e10, hW, hO⟩ := ho.slot (d := 21) (by simp [dstD])
      clear ho
      simp only [List.take, List.map_cons, List.map_nil, dstD, Option.getD_some, putAll, Act.put, List.setIfInBounds_toArray, List.set_cons_succ, List.set_cons_zero, e10]
      clear e10
      have hz1 := D3.out.size
      obtain ⟨q0, q1, q2, q3⟩ := (Boxed.below BR.out (D3.out.trans (hb.mono hz1)) (by omega))
      have HW := Lib.hid hW
      have HO := Lib.hid hO
      have HB1 := Lib.hid (HB.out.trans ((D3.out.trans (hb.mono hz1)).mono HB.out.size))
      clear hW hO hb
      go_wp2_with fail
      refine bodyPost_ret (v := .agg #[.bool sc, .slice A7 n7 c7]) ?_ rfl (NewI.put HW.out (show w.heap.size ≤ w.heap.size + 2 by omega) HO.out (by omega) HB1.out)
      simp only [results, Tryz.results13]
      go_simp
end Go.Proofs.YtbjooeapjhaapaaGreatDoor
/- big: Cmp, Sign: what each call answers. -/
namespace Go.Proofs.YtbjooeapjhaapaaGreatDoor
open Go Go.RowKit

set_option maxRecDepth 20000 in
set_option maxHeartbeats 4000000 in
theorem bcmp_any    {w : World} {B : Nat} {s t : Bool} {A A2 : Option Addr} {n c m c2 : Nat} {xs ys : List Int} (hs : Sl .u32 w B A n c xs) (ht : Sl .u32 w B A2 m c2 ys) (hB : B ≤ w.heap.size) (hx : Dg 4294967296 xs) (hy : Dg 4294967296 ys) (hn : n ≤ 1000000000) (hm : m ≤ 1000000000) :
    Calls Tryz.prog 28 #[.agg #[.bool s, .slice A n c], .agg #[.bool t, .slice A2 m c2]] w (CmpN w (ival s xs) (ival t ys)) := by
  obtain ⟨s', A', n', c', xs', hp⟩ := PlOut.ex s A n c xs
  obtain ⟨t', A2', m', c2', ys', hq⟩ := PlOut.ex t A2 m c2 ys
  obtain ⟨f1, f2, f3, f4, f5⟩ := hp.facts hs hx
  obtain ⟨g1, g2, g3, g4, g5⟩ := hq.facts ht hy
  obtain ⟨k1, k2, k3, k4⟩ := cmp_signs f4 g4 (val_nonneg (by decide) f2) (val_nonneg (by decide) g2) (fun h => rgt_pos f2 f3 h) (fun h => rgt_pos g2 g3 h)
  have K1 := Lib.hid k1
  have K2 := Lib.hid k2
  have K3 := Lib.hid k3
  have K4 := Lib.hid k4
  clear k1 k2 k3 k4
  obtain ⟨bX, bY, hlt, _⟩ := box_new2 (w := w) (v0 := .bool s) (v1 := .slice A n c) (u0 := .bool t) (u1 := .slice A2 m c2) (t := 24) (t2 := 24) (Below.refl _ _)
  have hb0 : Below w.heap.size w ((w.alloc (.cells #[.bool s, .slice A n c] 24)).alloc (.cells #[.bool t, .slice A2 m c2] 24)) := (((Below.refl _ _).alloc (by omega) _).alloc (by rw [size_one]; omega) _)
  have hz := size_two w (.cells #[.bool s, .slice A n c] 24) (.cells #[.bool t, .slice A2 m c2] 24)
  have HS := Lib.hid ((hs.below hb0 hB).more (Nat.le_trans hB hb0.size))
  have HT := Lib.hid ((ht.below hb0 hB).more (Nat.le_trans hB hb0.size))
  have F1 := Lib.hid ((f1.below hb0 hB).more (Nat.le_trans hB hb0.size))
  have G1 := Lib.hid ((g1.below hb0 hB).more (Nat.le_trans hB hb0.size))
  have F2 := Lib.hid f2
  have G2 := Lib.hid g2
  have BX := Lib.hid bX
  have BY := Lib.hid bY
  have HB := Lib.hid hb0
  have HP := Lib.hid hp
  have HQ := Lib.hid hq
  clear hs ht hb0 bX bY hlt f1 f2 f3 f4 g1 g2 g3 g4 hp hq hx hy
  go_enter Tryz.func28, Tryz.ntmps28
  go_wp2_with fail
  generalize ((w.alloc (.cells #[.bool s, .slice A n c] 24)).alloc (.cells #[.bool t, .slice A2 m c2] 24)) = W0 at HS HT F1 G1 BX BY HB hz ⊢
  refine wp_region_chain [(2, STy.is (.pointer (some ⟨w.heap.size, 0, none⟩))), (3, STy.is (.pointer (some ⟨w.heap.size + 1, 0, none⟩))), (7, STy.is (.agg #[.bool s, .slice A n c])), (8, STy.is (sgd s' A' n' c')), (9, STy.is (.agg #[.bool t, .slice A2 m c2])), (10, STy.is (sgd t' A2' m' c2')),
      (5, STy.nbox W0.heap.size 74), (6, STy.nbox W0.heap.size 74)]
    [2, 3] [] 42 6 (by kernel_rfl) (by kernel_rfl) rfl trivial ⟨rfl, rfl, trivial⟩ ?ok ?al ?fin
  case ok =>
    repeat' first
      | exact OpStepsG.nil
      | refine OpStepsG.run ?_ ?_
      | exact stb_box (fun _ _ h => h) (cell_on BX.out.1 (by omega)) (cell_on BX.out.2.1 (by omega)) (fun _ => rfl)
      | exact stb_box (fun _ _ h => h) (cell_on BY.out.1 (by omega)) (cell_on BY.out.2.1 (by omega)) (fun _ => rfl)
      | exact st_call1 entersb_counted (T0 := fun _ v => v = .agg #[.bool s, .slice A n c]) (fun _ _ h => h) (fun W v0 hb h0 => by
          subst h0
          refine (counted_out HP.out (HS.out.below hb (Nat.le_refl _)) hb.size).mono ?_
          rintro e w' ⟨rfl, hb'⟩
          exact ⟨⟨_, rfl, rfl⟩, hb'⟩)
      | exact st_call1 entersb_counted (T0 := fun _ v => v = .agg #[.bool t, .slice A2 m c2]) (fun _ _ h => h) (fun W v0 hb h0 => by
          subst h0
          refine (counted_out HQ.out (HT.out.below hb (Nat.le_refl _)) hb.size).mono ?_
          rintro e w' ⟨rfl, hb'⟩
          exact ⟨⟨_, rfl, rfl⟩, hb'⟩)
      | exact stg_alloc (fun _ _ h => h)
  case al =>
    repeat' first
      | exact AllocsOk.nil
      | refine AllocsOk.cons ?_ ?_
      | exact fun T h ρ w => run_allocg ρ w
      | exact fun T h => nomatch h
  case fin =>
    intro v w' ho ha hb
    obtain ⟨r1, e5, h51, h52, h53⟩ := ho.slot (d := 5) (by simp [dstD])
    obtain ⟨r2, e6, h61, h62, h63⟩ := ho.slot (d := 6) (by simp [dstD])
    have e8 : v 8 = sgd s' A' n' c' := ho.slot (d := 8) (by simp [dstD])
    have e10 : v 10 = sgd t' A2' m' c2' := ho.slot (d := 10) (by simp [dstD])
    have hne : r1 ≠ r2 := fun h => ha 4 5 _ _ _ _ (by decide) rfl rfl rfl rfl rfl rfl (by show v 5 = v 6; rw [e5, e6, h])
    clear ho ha
    obtain ⟨d1, d2, d3, d4⟩ := two_boxes (k := W0.heap.size) (.bool s') (.slice A' n' c') (.bool t') (.slice A2' m' c2') h53 h63 hne h51 h61
    have hne' := hne.symm
    obtain ⟨p0, p1, p2, p3⟩ := boxed_of h53
    obtain ⟨q0, q1, q2, q3⟩ := boxed_of h63
    have D1 := Lib.hid d1
    have D2 := Lib.hid d2
    have D3 := Lib.hid (hb.trans (d3.mono (Nat.le_refl _)))
    clear d1 d2 d3 h53 h63 hb
    simp only [List.take, List.drop, List.map_cons, List.map_nil, dstD, Option.getD_some, putAll, Act.put, List.setIfInBounds_toArray, List.set_cons_succ, List.set_cons_zero, e5, e6, e8, e10]
    rcases s' with _ | _ <;> rcases t' with _ | _
    · have EK := Lib.hid (K4.out rfl rfl)
      clear K1 K2 K3 K4
      go_wp2_with fail
      generalize (((w'.setCell ⟨r1, 0, none⟩ (.bool false)).setCell ⟨r1, 1, none⟩ (.slice A' n' c')).setCell ⟨r2, 0, none⟩ (.bool false)).setCell ⟨r2, 1, none⟩ (.slice A2' m' c2') = W1 at D1 D2 D3 d4 ⊢
      clear p0 p1 p2 p3 q0 q1 q2 q3 e5 e6 e8 e10
      have hr1 : r1 < W1.heap.size := by omega
      have hr2 : r2 < W1.heap.size := by omega
      have hz1 := D3.out.size
      refine unlike_any.mono ?_
      rintro e w3 ⟨rfl, hb⟩
      obtain ⟨p0, p1, p2, p3⟩ := Boxed.below D1.out hb hr1
      obtain ⟨q0, q1, q2, q3⟩ := Boxed.below D2.out hb hr2
      have D5 := Lib.hid (D3.out.trans (hb.mono hz1))
      have hr3 : r1 < w3.heap.size := Nat.lt_of_lt_of_le hr1 hb.size
      have hr4 : r2 < w3.heap.size := Nat.lt_of_lt_of_le hr2 hb.size
      have D6 := Lib.hid (Boxed.below D1.out hb hr1)
      have D7 := Lib.hid (Boxed.below D2.out hb hr2)
      clear hb
      go_wp2_with fail
      refine unlike_any.mono ?_
      rintro e w4 ⟨rfl, hb⟩
      have hz3 := D5.out.size
      have D8 := Lib.hid (D5.out.trans (hb.mono hz3))
      clear p0 p1 p2 p3 q0 q1 q2 q3
      obtain ⟨p0, p1, p2, p3⟩ := Boxed.below D6.out hb hr3
      obtain ⟨q0, q1, q2, q3⟩ := Boxed.below D7.out hb hr4
      clear hb
      have hz8 := D8.out.size
      go_wp2_with fail
      refine (Cmp_any ((F1.out.below D8.out (Nat.le_refl _)).more hz8) ((G1.out.below D8.out (Nat.le_refl _)).more hz8) F2.out G2.out).mono ?_
      rintro e w5 ⟨hce, k, rfl⟩
      unfold CmpR at hce
      subst hce
      rw [← EK.out]
      go_wp2_with fail
      go_ret
      exact ⟨rfl, Below.drewN' (HB.out.trans (D8.out.mono HB.out.size)) k⟩
    · have EK := Lib.hid (K2.out rfl rfl)
      clear K1 K2 K3 K4
      go_wp2_with fail
      generalize (((w'.setCell ⟨r1, 0, none⟩ (.bool false)).setCell ⟨r1, 1, none⟩ (.slice A' n' c')).setCell ⟨r2, 0, none⟩ (.bool true)).setCell ⟨r2, 1, none⟩ (.slice A2' m' c2') = W1 at D1 D2 D3 d4 ⊢
      clear p0 p1 p2 p3 q0 q1 q2 q3 e5 e6 e8 e10
      have hr1 : r1 < W1.heap.size := by omega
      have hr2 : r2 < W1.heap.size := by omega
      have hz1 := D3.out.size
      refine unlike_any.mono ?_
      rintro e w3 ⟨rfl, hb⟩
      obtain ⟨p0, p1, p2, p3⟩ := Boxed.below D1.out hb hr1
      obtain ⟨q0, q1, q2, q3⟩ := Boxed.below D2.out hb hr2
      have D5 := Lib.hid (D3.out.trans (hb.mono hz1))
      have hr3 : r1 < w3.heap.size := Nat.lt_of_lt_of_le hr1 hb.size
      have hr4 : r2 < w3.heap.size := Nat.lt_of_lt_of_le hr2 hb.size
      have D6 := Lib.hid (Boxed.below D1.out hb hr1)
      have D7 := Lib.hid (Boxed.below D2.out hb hr2)
      clear hb
      go_wp2_with fail
      refine unlike_any.mono ?_
      rintro e w4 ⟨rfl, hb⟩
      have hz3 := D5.out.size
      have D8 := Lib.hid (D5.out.trans (hb.mono hz3))
      clear p0 p1 p2 p3 q0 q1 q2 q3
      obtain ⟨p0, p1, p2, p3⟩ := Boxed.below D6.out hb hr3
      obtain ⟨q0, q1, q2, q3⟩ := Boxed.below D7.out hb hr4
      clear hb
      go_wp2_with fail
      go_ret
      exact ⟨by rw [EK.out]; rfl, HB.out.trans (D8.out.mono HB.out.size)⟩
    · have EK := Lib.hid (K1.out rfl rfl)
      clear K1 K2 K3 K4
      go_wp2_with fail
      generalize (((w'.setCell ⟨r1, 0, none⟩ (.bool true)).setCell ⟨r1, 1, none⟩ (.slice A' n' c')).setCell ⟨r2, 0, none⟩ (.bool false)).setCell ⟨r2, 1, none⟩ (.slice A2' m' c2') = W1 at D1 D2 D3 d4 ⊢
      clear p0 p1 p2 p3 q0 q1 q2 q3 e5 e6 e8 e10
      have hr1 : r1 < W1.heap.size := by omega
      have hr2 : r2 < W1.heap.size := by omega
      have hz1 := D3.out.size
      refine unlike_any.mono ?_
      rintro e w3 ⟨rfl, hb⟩
      obtain ⟨p0, p1, p2, p3⟩ := Boxed.below D1.out hb hr1
      obtain ⟨q0, q1, q2, q3⟩ := Boxed.below D2.out hb hr2
      have D5 := Lib.hid (D3.out.trans (hb.mono hz1))
      have hr3 : r1 < w3.heap.size := Nat.lt_of_lt_of_le hr1 hb.size
      have hr4 : r2 < w3.heap.size := Nat.lt_of_lt_of_le hr2 hb.size
      have D6 := Lib.hid (Boxed.below D1.out hb hr1)
      have D7 := Lib.hid (Boxed.below D2.out hb hr2)
      clear hb
      go_wp2_with fail
      go_ret
      exact ⟨by rw [EK.out]; rfl, HB.out.trans (D5.out.mono HB.out.size)⟩
    · have EK := Lib.hid (K3.out rfl rfl)
      clear K1 K2 K3 K4
      go_wp2_with fail
      generalize (((w'.setCell ⟨r1, 0, none⟩ (.bool true)).setCell ⟨r1, 1, none⟩ (.slice A' n' c')).setCell ⟨r2, 0, none⟩ (.bool true)).setCell ⟨r2, 1, none⟩ (.slice A2' m' c2') = W1 at D1 D2 D3 d4 ⊢
      clear p0 p1 p2 p3 q0 q1 q2 q3 e5 e6 e8 e10
      have hr1 : r1 < W1.heap.size := by omega
      have hr2 : r2 < W1.heap.size := by omega
      have hz1 := D3.out.size
      refine unlike_any.mono ?_
      rintro e w3 ⟨rfl, hb⟩
      obtain ⟨p0, p1, p2, p3⟩ := Boxed.below D1.out hb hr1
      obtain ⟨q0, q1, q2, q3⟩ := Boxed.below D2.out hb hr2
      have D5 := Lib.hid (D3.out.trans (hb.mono hz1))
      have hr3 : r1 < w3.heap.size := Nat.lt_of_lt_of_le hr1 hb.size
      have hr4 : r2 < w3.heap.size := Nat.lt_of_lt_of_le hr2 hb.size
      have D6 := Lib.hid (Boxed.below D1.out hb hr1)
      have D7 := Lib.hid (Boxed.below D2.out hb hr2)
      clear hb
      go_wp2_with fail
      refine unlike_any.mono ?_
      rintro e w4 ⟨rfl, hb⟩
      have hz3 := D5.out.size
      have D8 := Lib.hid (D5.out.trans (hb.mono hz3))
      clear p0 p1 p2 p3 q0 q1 q2 q3
      obtain ⟨p0, p1, p2, p3⟩ := Boxed.below D6.out hb hr3
      obtain ⟨q0, q1, q2, q3⟩ := Boxed.below D7.out hb hr4
      clear hb
      have hz8 := D8.out.size
      go_wp2_with fail
      refine (Cmp_any ((G1.out.below D8.out (Nat.le_refl _)).more hz8) ((F1.out.below D8.out (Nat.le_refl _)).more hz8) G2.out F2.out).mono ?_
      rintro e w5 ⟨hce, k, rfl⟩
      unfold CmpR at hce
      subst hce
      rw [← EK.out]
      go_wp2_with fail
      go_ret
      exact ⟨rfl, Below.drewN' (HB.out.trans (D8.out.mono HB.out.size)) k⟩
set_option maxRecDepth 20000 in
set_option maxHeartbeats 2000000 in
theorem bsign_any {w : World} {B : Nat} {s : Bool} {A : Option Addr} {n c : Nat} {xs : List Int} (hs : Sl .u32 w B A n c xs) (hB : B ≤ w.heap.size) (hx : Dg 4294967296 xs) (hn : n ≤ 1000000000) :
    Calls Tryz.prog 30 #[.agg #[.bool s, .slice A n c]] w (CmpN w (ival s xs) 0) := by
  have HX := Lib.hid hx
  clear hx
  go_enter Tryz.func30, Tryz.ntmps30
  go_wp2_with fail
  refine (bcmp_any (hs.alloc hB _) (Sl.nil (B := B)) (by rw [size_one]; omega) HX.out Dg.nil hn (by omega)).mono ?_
  rintro e w1 ⟨rfl, hb⟩
  rw [ival_nil]
  have HB := Lib.hid (below_a1 hb)
  clear hb
  go_wp2_with fail
  go_ret
  exact ⟨rfl, HB.out⟩
end Go.Proofs.YtbjooeapjhaapaaGreatDoor
