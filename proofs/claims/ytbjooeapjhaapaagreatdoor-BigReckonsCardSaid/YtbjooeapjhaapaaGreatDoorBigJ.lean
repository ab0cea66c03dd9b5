/- big: Gcd: what it answers. -/
import Derived.Test.YtbjooeapjhaapaaGreatDoorBigI
import Derived.Test.YtbjooeapjhaapaaGreatDoorNatG
namespace Go.Proofs.YtbjooeapjhaapaaGreatDoor
open Go Go.RowKit

/-- A row of rows, readable. -/
def STy.rowsS (l : List (List Int)) : STy := ⟨fun w v => ∃ A n c, v = .slice A n c ∧ SlS w w.heap.size A n c l, fun ⟨A, n, c, e, h⟩ hb => ⟨A, n, c, e, (h.below hb (Nat.le_refl _)).more hb.size⟩⟩
set_option maxRecDepth 20000 in
theorem stb_rows2 {E : List (Nat × STy)} {w0 : World} {d : Nat} {ty : TypeId} {pos : String} {af : Array Edge} {gd : Option (Nat × Bool)} {o0 o1 : Operand} {A A2 : Option Addr} {n c m c2 : Nat} {xs ys : List Int} (h0 : OpIs E o0 (.slice A n c)) (h1 : OpIs E o1 (.slice A2 m c2))
    (hs : Sl .u32 w0 w0.heap.size A n c xs) (ht : Sl .u32 w0 w0.heap.size A2 m c2 ys) (hd : ∀ w v, (STy.rowsS [xs, ys]).holds w v → (slotTy E d).holds w v) :
    OpStep Tryz.prog E w0 ⟨some d, .buildSlice 100 2 #[(0, o0), (1, o1)], ty, pos, af, gd⟩ := by
  intro ρ w hc hf hb hsl
  have e0 := OpIs.at_ hc hsl (o := o0) (by simp [Op.operands]) h0
  have e1 := OpIs.at_ hc hsl (o := o1) (by simp [Op.operands]) h1
  have h2 := SlS.two w (Nat.le_refl _) ((hs.below hb (Nat.le_refl _)).more hb.size) ((ht.below hb (Nat.le_refl _)).more hb.size) 22
  clear h0 h1 hsl hc hf hs ht
  unfold Yields
  go_simp
  exact ⟨hd _ _ ⟨_, _, _, rfl, h2.more (by rw [size_one]; exact Nat.le_refl _)⟩, (Below.refl _ _).alloc (Nat.le_refl _) _⟩
theorem entersb_ngcd : Enters Tryz.prog 54 := fun _ _ => by kernel_rfl
set_option maxRecDepth 20000 in
set_option maxHeartbeats 4000000 in
theorem bgcd_any    {w : World} {B : Nat} {s t : Bool} {A A2 : Option Addr} {n c m c2 : Nat} {xs ys : List Int} (hs : Sl .u32 w B A n c xs) (ht : Sl .u32 w B A2 m c2 ys) (hB : B ≤ w.heap.size) (hE : HalfT w) (hE0 : 0 < w.heap.size) (hx : Dg 4294967296 xs) (hy : Dg 4294967296 ys) (hn : n ≤ 2000) (hm : m ≤ 2000) :
    Calls Tryz.prog 16 #[.agg #[.bool s, .slice A n c], .agg #[.bool t, .slice A2 m c2]] w (NewI w (gcdI ((ival s xs).natAbs : Int) ((ival t ys).natAbs : Int))) := by
  obtain ⟨s', A', n', c', xs', hp⟩ := PlOut.ex s A n c xs
  obtain ⟨t', A2', m', c2', ys', hq⟩ := PlOut.ex t A2 m c2 ys
  obtain ⟨f1, f2, f3, f4, f5⟩ := hp.facts hs hx
  obtain ⟨g1, g2, g3, g4, g5⟩ := hq.facts ht hy
  have e1 : ((ival s xs).natAbs : Int) = val 4294967296 xs' := by rw [← f4]; exact sgv_abs (val_nonneg (by decide) f2)
  have e2 : ((ival t ys).natAbs : Int) = val 4294967296 ys' := by rw [← g4]; exact sgv_abs (val_nonneg (by decide) g2)
  have HV := Lib.hid (show gcdL 0 [xs', ys'] = gcdI ((ival s xs).natAbs : Int) ((ival t ys).natAbs : Int) by
    rw [e1, e2]
    simp only [gcdL]
    rw [gcdI_comm 0, gcdI_zero (val_nonneg (by decide) f2)])
  have HE := Lib.hid hE
  clear e1 e2 hE
  obtain ⟨bX, bY, bR, hlt, _⟩ := box_new3 (w := w) (v0 := .bool s) (v1 := .slice A n c) (u0 := .bool t) (u1 := .slice A2 m c2) (x0 := .bool false) (x1 := .slice none 0 0) (t := 24) (t2 := 24) (t3 := 24) (Below.refl _ _)
  have hb0 : Below w.heap.size w (((w.alloc (.cells #[.bool s, .slice A n c] 24)).alloc (.cells #[.bool t, .slice A2 m c2] 24)).alloc (.cells #[.bool false, .slice none 0 0] 24)) := ((((Below.refl _ _).alloc (by omega) _).alloc (by rw [size_one]; omega) _).alloc (by rw [size_two]; omega) _)
  have hz := size_three w (.cells #[.bool s, .slice A n c] 24) (.cells #[.bool t, .slice A2 m c2] 24) (.cells #[.bool false, .slice none 0 0] 24)
  have HS := Lib.hid ((hs.below hb0 hB).more (Nat.le_trans hB hb0.size))
  have HT := Lib.hid ((ht.below hb0 hB).more (Nat.le_trans hB hb0.size))
  have F1 := Lib.hid ((f1.below hb0 hB).more (Nat.le_trans hB hb0.size))
  have G1 := Lib.hid ((g1.below hb0 hB).more (Nat.le_trans hB hb0.size))
  have F2 := Lib.hid f2
  have G2 := Lib.hid g2
  have BX := Lib.hid bX
  have BY := Lib.hid bY
  have BR := Lib.hid bR
  have HB := Lib.hid hb0
  have HP := Lib.hid hp
  have HQ := Lib.hid hq
  clear hs ht hb0 bX bY bR hlt f1 f2 f3 f4 g1 g2 g3 g4 hp hq hx hy
  go_enter Tryz.func16, Tryz.ntmps16
  go_wp2_with fail
  generalize (((w.alloc (.cells #[.bool s, .slice A n c] 24)).alloc (.cells #[.bool t, .slice A2 m c2] 24)).alloc (.cells #[.bool false, .slice none 0 0] 24)) = W0 at HS HT F1 G1 BX BY BR HB hz ⊢
  have hlx := F1.out.len
  have hly := G1.out.len
  refine wp_region_tail [(2, STy.is (.pointer (some ⟨w.heap.size, 0, none⟩))), (3, STy.is (.pointer (some ⟨w.heap.size + 1, 0, none⟩))), (5, STy.is (.agg #[.bool s, .slice A n c])), (6, STy.is (sgd s' A' n' c')), (7, STy.is (sgd s' A' n' c')), (8, STy.is (.slice A' n' c')),
      (9, STy.is (.agg #[.bool t, .slice A2 m c2])), (10, STy.is (sgd t' A2' m' c2')), (11, STy.is (sgd t' A2' m' c2')), (12, STy.is (.slice A2' m' c2')), (13, STy.rowsS [xs', ys']), (14, STy.ownN W0.heap.size (gcdI ((ival s xs).natAbs : Int) ((ival t ys).natAbs : Int))), (15, STy.newI W0.heap.size (gcdI ((ival s xs).natAbs : Int) ((ival t ys).natAbs : Int)))]
    [2, 3] [] 16 11 (by kernel_rfl) rfl (by kernel_rfl) rfl trivial ⟨rfl, rfl, trivial⟩ ?ok ?fin
  case ok =>
    repeat' first
      | exact OpSteps.nil
      | refine OpSteps.cons ?_ ?_
      | exact stb_box (fun _ _ h => h) (cell_on BX.out.1 (by omega)) (cell_on BX.out.2.1 (by omega)) (fun _ => rfl)
      | exact stb_box (fun _ _ h => h) (cell_on BY.out.1 (by omega)) (cell_on BY.out.2.1 (by omega)) (fun _ => rfl)
      | exact st_call1 entersb_counted (T0 := fun _ v => v = .agg #[.bool s, .slice A n c]) (fun _ _ h => h) (fun W v0 hb h0 => by
          subst h0
          refine (counted_out HP.out (HS.out.below hb (Nat.le_refl _)) hb.size).mono ?_
          rintro e w' ⟨rfl, hb'⟩
          exact ⟨⟨_, rfl, rfl⟩, hb'⟩)
      | exact st_call1 entersb_counted (T0 := fun _ v => v = .agg #[.bool t, .slice A2 m c2]) (fun _ _ h => h) (fun W v0 hb h0 => by
          subst h0
          refine (counted_out HQ.out (HT.out.below hb (Nat.le_refl _)) hb.size).mono ?_
          rintro e w' ⟨rfl, hb'⟩
          exact ⟨⟨_, rfl, rfl⟩, hb'⟩)
      | exact stg_field (fun _ _ h => h) (fun _ => rfl)
      | exact stb_field1 (fun _ _ h => h) (fun _ => rfl)
      | exact stb_rows2 (fun _ _ h => h) (fun _ _ h => h) F1.out G1.out (fun _ _ h => h)
      | exact st_call1 entersb_ngcd (T0 := (STy.rowsS [xs', ys']).holds) (fun _ _ h => h) (fun W v0 hb h0 => by
          obtain ⟨A5, n5, c5, rfl, h5⟩ := h0
          refine (Gcd_any (M := 2000) h5 (Nat.le_refl _) (HE.out.below (HB.out.trans (hb.mono HB.out.size)) hE0) (by have := HB.out.size; have := hb.size; omega) (by simp [F2.out, G2.out]; omega) (by omega)).mono ?_
          rintro e w' ⟨zs, hr, A7, n7, c7, rfl, ho, hb'⟩
          rw [HV.out] at hr
          exact ⟨⟨_, rfl, A7, n7, c7, zs, rfl, hr, ho.lower hb.size⟩, hb'⟩)
      | exact st_call2 entersb_number (T0 := fun _ v => v = .bool false) (T1 := (STy.ownN W0.heap.size (gcdI ((ival s xs).natAbs : Int) ((ival t ys).natAbs : Int))).holds) (fun _ => rfl) (fun _ _ h => h) (fun W v0 v1 hb h0 h1 => by
          subst h0
          obtain ⟨A7, n7, c7, zs, rfl, hr, ho⟩ := h1
          refine number_any.mono ?_
          rintro e w' ⟨rfl, hb'⟩
          have := Whole.num (s := false) hr (row_dig hr) ho.len
          rw [sgv_false] at this
          exact ⟨⟨_, rfl, _, zs, A7, n7, c7, rfl, this, ho.below hb'⟩, hb'⟩)
  case fin =>
    intro v w' ho hb
    obtain ⟨sc, Z, A7, n7, c7, e10, hW, hO⟩ := ho.slot (d := 15) (by simp [dstD])
    clear ho
    simp only [List.take, List.map_cons, List.map_nil, dstD, Option.getD_some, putAll, Act.put, List.setIfInBounds_toArray, List.set_cons_succ, List.set_cons_zero, e10]
    clear e10
    obtain ⟨q0, q1, q2, q3⟩ := Boxed.below BR.out hb (by omega)
    have HW := Lib.hid hW
    have HO := Lib.hid hO
    have HB1 := Lib.hid (HB.out.trans (hb.mono HB.out.size))
    clear hW hO hb
    go_wp2_with fail
    refine bodyPost_ret (v := .agg #[.bool sc, .slice A7 n7 c7]) ?_ rfl (NewI.put HW.out (show w.heap.size ≤ w.heap.size + 2 by omega) HO.out (by omega) HB1.out)
    simp only [results, Tryz.results16]
    go_simp
end Go.Proofs.YtbjooeapjhaapaaGreatDoor
