/- tallageref03: Sub: what each call answers. -/
import Derived.Test.YtbjooeapjhaapaaGreatDoorBRefV
namespace Go.Proofs.YtbjooeapjhaapaaGreatDoor
open Go Go.RowKit

theorem enters3_neg : Enters Tryz.prog 20 := fun _ _ => by kernel_rfl
theorem enters3_add : Enters Tryz.prog 17 := fun _ _ => by kernel_rfl
set_option maxRecDepth 20000 in
set_option maxHeartbeats 2000000 in
theorem sub3_any {w : World} {B : Nat} {s t : Bool} {A A2 : Option Addr} {n c m c2 : Nat} {xs ys : List Int} (hs : Sl .u32 w B A n c xs) (ht : Sl .u32 w B A2 m c2 ys) (hB : B ≤ w.heap.size) (hx : Dg 4294967296 xs) (hy : Dg 4294967296 ys) (hn : n ≤ 100000000) (hm : m ≤ 100000000) :
    Calls Tryz.prog 18 #[.agg #[.bool s, .slice A n c], .agg #[.bool t, .slice A2 m c2]] w (NewI w (ival s xs - ival t ys)) := by
  have HX := Lib.hid hx
  have HY := Lib.hid hy
  have hlm := Lib.hid (ival_lt (s := t) hy ht.len)
  have HS := Lib.hid hs
  have HT := Lib.hid ht
  clear hx hy hs ht
  go_enter Tryz.func18, Tryz.ntmps18
  go_wp2_with fail
  have hb0 : Below w.heap.size w (((w.alloc (.cells #[.bool s, .slice A n c] 26)).alloc (.cells #[.bool t, .slice A2 m c2] 26)).alloc (.cells #[.bool false, .slice none 0 0] 26)) :=
    (((Below.refl _ _).alloc (Nat.le_refl _) _).alloc (by rw [size_one]; omega) _).alloc (by rw [size_two]; omega) _
  obtain ⟨bX, bY, bR, hlt, _⟩ := box_new3 (w := w) (v0 := .bool s) (v1 := .slice A n c) (u0 := .bool t) (u1 := .slice A2 m c2) (x0 := .bool false) (x1 := .slice none 0 0) (t := 26) (t2 := 26) (t3 := 26) (Below.refl _ _)
  generalize ((w.alloc (.cells #[.bool s, .slice A n c] 26)).alloc (.cells #[.bool t, .slice A2 m c2] 26)).alloc (.cells #[.bool false, .slice none 0 0] 26) = W0 at hb0 bX bY bR hlt ⊢
  have B0 := Lib.hid hb0
  have BX := Lib.hid bX
  have BY := Lib.hid bY
  have BR := Lib.hid bR
  have HL := Lib.hid hlt
  clear hb0 bX bY bR hlt
  refine wp_region_tail [(2, STy.is (.pointer (some ⟨w.heap.size, 0, none⟩))), (3, STy.is (.pointer (some ⟨w.heap.size + 1, 0, none⟩))), (5, STy.is (.agg #[.bool s, .slice A n c])), (6, STy.is (.agg #[.bool t, .slice A2 m c2])), (7, STy.newI W0.heap.size (-(ival t ys))), (8, STy.newI W0.heap.size (ival s xs - ival t ys))]
    [2, 3] [] 9 4 (by kernel_rfl) rfl (by kernel_rfl) rfl trivial ⟨rfl, rfl, trivial⟩ ?ok ?fin
  case ok =>
    repeat' first
      | exact OpSteps.nil
      | refine OpSteps.cons ?_ ?_
      | exact st3_box (fun _ _ h => h) (cell_on BX.out.1 (by have := HL.out; omega)) (cell_on BX.out.2.1 (by have := HL.out; omega)) (fun _ => rfl)
      | exact st3_box (fun _ _ h => h) (cell_on BY.out.1 (by have := HL.out; omega)) (cell_on BY.out.2.1 (by have := HL.out; omega)) (fun _ => rfl)
      | exact st_call1 enters3_neg (T0 := fun _ v => v = .agg #[.bool t, .slice A2 m c2]) (fun _ _ h => h) (fun W v0 hb h0 => by
          subst h0
          have hz := B0.out.size
          refine (neg3_any (HT.out.below (B0.out.trans (hb.mono hz)) hB) (Nat.le_trans hB (Nat.le_trans hz hb.size)) HY.out (by omega)).mono ?_
          rintro e w' ⟨sc, Z, A7, n7, c7, hW, rfl, ho, hb2⟩
          exact ⟨⟨_, rfl, sc, Z, A7, n7, c7, rfl, hW, ho.lower hb.size⟩, hb2⟩)
      | exact st_call2 enters3_add (T0 := fun _ v => v = .agg #[.bool s, .slice A n c]) (T1 := (STy.newI W0.heap.size (-(ival t ys))).holds) (fun _ _ h => h) (fun _ _ h => h) (fun W v0 v1 hb h0 h1 => by
          subst h0
          obtain ⟨sc, Z, A7, n7, c7, rfl, hW, ho⟩ := h1
          have hz := B0.out.size
          have h7 := hW.len (neg_lt hlm.out)
          have h8 := ho.len
          refine (add3_any (((HS.out.below (B0.out.trans (hb.mono hz)) hB)).more (Nat.le_trans hB (Nat.le_trans hz hb.size))) ho.sl (Nat.le_refl _) HX.out hW.row.dg hn (by omega)).mono ?_
          rintro e w' ⟨sd, Z2, A8, n8, c8, hW2, rfl, ho2, hb2⟩
          rw [hW.val, ← Int.sub_eq_add_neg] at hW2
          exact ⟨⟨_, rfl, sd, Z2, A8, n8, c8, rfl, hW2, ho2.lower hb.size⟩, hb2⟩)
  case fin =>
    intro v w' ho hb
    obtain ⟨sc, Z, A7, n7, c7, e10, hW, hO⟩ := ho.slot (d := 8) (by simp [dstD])
    clear ho
    simp only [List.take, List.map_cons, List.map_nil, dstD, Option.getD_some, putAll, Act.put, List.setIfInBounds_toArray, List.set_cons_succ, List.set_cons_zero, e10]
    clear e10
    obtain ⟨q0, q1, q2, q3⟩ := Boxed.below BR.out hb HL.out
    have HW := Lib.hid hW
    have HO := Lib.hid hO
    have HB := Lib.hid (B0.out.trans (hb.mono B0.out.size))
    clear hW hO hb
    go_wp2_with fail
    refine bodyPost_ret (v := .agg #[.bool sc, .slice A7 n7 c7]) ?_ rfl (NewI.put HW.out (by omega) HO.out HL.out HB.out)
    simp only [results, Tryz.results18]
    go_simp
end Go.Proofs.YtbjooeapjhaapaaGreatDoor
