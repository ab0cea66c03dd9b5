/- big: DivMod: what it answers. -/
import Derived.Test.YtbjooeapjhaapaaGreatDoorBigJ
namespace Go.Proofs.YtbjooeapjhaapaaGreatDoor
open Go Go.RowKit

/-- Floor division, in new memory; both lie apart. -/
def DivB (w : World) (a b : Int) (e : Ending) (w' : World) : Prop :=
  (b = 0 ∧ e = .returned (.tuple #[.agg #[.bool false, .slice none 0 0], .agg #[.bool false, .slice none 0 0], .int .i64 20]) ∧ Below w.heap.size w w') ∨
  (b ≠ 0 ∧ ∃ s1 qs s2 rs A1 n1 c1 A2 n2 c2, e = .returned (.tuple #[.agg #[.bool s1, .slice A1 n1 c1], .agg #[.bool s2, .slice A2 n2 c2], .int .i64 0]) ∧ Whole (a.fdiv b) s1 qs ∧ Whole (a.fmod b) s2 rs ∧ Own .u32 66 w' w.heap.size A1 n1 c1 qs ∧ Own .u32 66 w' w.heap.size A2 n2 c2 rs ∧ Sep A1 A2 ∧ Below w.heap.size w w')
/-- The last region: two numbers stored in the results' boxes. -/
theorem DivB.put {w w1 : World} {B : Nat} {a b : Int} {s1 s2 : Bool} {qs rs : List Int} {A1 A2 : Option Addr} {n1 c1 n2 c2 : Nat} {u v x y : Value} (hb0 : b ≠ 0) (hq : Whole (a.fdiv b) s1 qs) (hr : Whole (a.fmod b) s2 rs) (o1 : Own .u32 66 w1 B A1 n1 c1 qs) (o2 : Own .u32 66 w1 B A2 n2 c2 rs) (hs : Sep A1 A2) (hB : w.heap.size + 3 < B) (hb : Below w.heap.size w w1) :
    DivB w a b (.returned (.tuple #[.agg #[.bool s1, .slice A1 n1 c1], .agg #[.bool s2, .slice A2 n2 c2], .int .i64 0])) ((((w1.setCell ⟨w.heap.size + 2, 0, none⟩ u).setCell ⟨w.heap.size + 2, 1, none⟩ v).setCell ⟨w.heap.size + 3, 0, none⟩ x).setCell ⟨w.heap.size + 3, 1, none⟩ y) :=
  .inr ⟨hb0, s1, qs, s2, rs, A1, n1, c1, A2, n2, c2, rfl, hq, hr, ((((o1.box (by omega) 0 u).box (by omega) 1 v).box (r := w.heap.size + 3) (by omega) 0 x).box (by omega) 1 y).lower (by omega), ((((o2.box (by omega) 0 u).box (by omega) 1 v).box (r := w.heap.size + 3) (by omega) 0 x).box (by omega) 1 y).lower (by omega), hs,
    (((hb.setCell (p := ⟨w.heap.size + 2, 0, none⟩) (show w.heap.size ≤ w.heap.size + 2 by omega) u).setCell (p := ⟨w.heap.size + 2, 1, none⟩) (show w.heap.size ≤ w.heap.size + 2 by omega) v).setCell (p := ⟨w.heap.size + 3, 0, none⟩) (show w.heap.size ≤ w.heap.size + 3 by omega) x).setCell (p := ⟨w.heap.size + 3, 1, none⟩) (show w.heap.size ≤ w.heap.size + 3 by omega) y⟩
/-- What the last region stores: of what nat.DivMod answered, or one step farther. -/
theorem bne_no {s t : Bool} (h : (s != t) = false) : s = t := by cases s <;> cases t <;> first | rfl | cases h
theorem bne_yes {s t : Bool} (h : (s != t) = true) : s ≠ t := by cases s <;> cases t <;> first | (intro e; cases e; done) | cases h
theorem sgv_step {s t : Bool} (h : (s != t) = true) (q r U : Int) : sgv (s != t) q - 1 = sgv (s != t) (q + 1) ∧ sgv s r + sgv t U = sgv t (U - r) := by
  rw [h]
  have hne := bne_yes h
  refine ⟨by rw [sgv_true, sgv_true]; omega, ?_⟩
  cases s <;> cases t
  · exact absurd rfl hne
  · rw [sgv_false, sgv_true, sgv_true]; omega
  · rw [sgv_false, sgv_true, sgv_false]; omega
  · exact absurd rfl hne
theorem floor_parts {s t : Bool} {V U : Int} (hU : 0 < U) :
    ((s != t) = false ∨ V % U = 0 → (sgv s V).fdiv (sgv t U) = sgv (s != t) (V / U) ∧ (sgv s V).fmod (sgv t U) = sgv t (V % U)) ∧
    ((s != t) = true ∧ V % U ≠ 0 → (sgv s V).fdiv (sgv t U) = sgv (s != t) (V / U + 1) ∧ (sgv s V).fmod (sgv t U) = sgv t (U - V % U)) := by
  have h1 : V = V / U * U + V % U := by rw [Int.mul_comm]; exact (Int.mul_ediv_add_emod V U).symm
  have h2 := Int.emod_nonneg V (show U ≠ 0 by omega)
  have h3 := Int.emod_lt_of_pos V hU
  refine ⟨fun h => ?_, fun ⟨h, h0⟩ => ?_⟩
  · have h4 : V % U = 0 ∨ s = t := by
      rcases h with h | h
      · exact .inr (bne_no h)
      · exact .inl h
    obtain ⟨e1, e2⟩ := fdiv_parts (s := s) (t := t) h1 h2 h3 h4
    refine ⟨e1, e2.trans ?_⟩
    rcases h4 with h4 | h4
    · rw [h4]; cases s <;> cases t <;> rfl
    · rw [h4]
  · obtain ⟨e1, e2⟩ := fdiv_parts_less (s := s) (t := t) h1 (by omega) h3 (bne_yes h)
    obtain ⟨e3, e4⟩ := sgv_step h (V / U) (V % U) U
    exact ⟨e1.trans e3, e2.trans e4⟩
theorem blt_pos {n : Nat} (h : n ≠ 0) : (0 : Int) < (n : Int) := by omega
set_option maxRecDepth 20000 in
set_option maxHeartbeats 8000000 in
theorem bdivmod_any    {w : World} {B : Nat} {s t : Bool} {A A2 : Option Addr} {n c m c2 : Nat} {xs ys : List Int} (hs : Sl .u32 w B A n c xs) (ht : Sl .u32 w B A2 m c2 ys) (hB : B ≤ w.heap.size) (hE : HalfT w) (hE0 : 0 < w.heap.size) (hx : Dg 4294967296 xs) (hy : Dg 4294967296 ys) (hn : n ≤ 100000000) (hm : m ≤ 100000000) :
    Calls Tryz.prog 23 #[.agg #[.bool s, .slice A n c], .agg #[.bool t, .slice A2 m c2]] w (DivB w (ival s xs) (ival t ys)) := by
  obtain ⟨s', A', n', c', xs', hp⟩ := PlOut.ex s A n c xs
  obtain ⟨t', A2', m', c2', ys', hq⟩ := PlOut.ex t A2 m c2 ys
  obtain ⟨f1, f2, f3, f4, f5⟩ := hp.facts hs hx
  obtain ⟨g1, g2, g3, g4, g5⟩ := hq.facts ht hy
  have v0 := val_nonneg (β := 4294967296) (by decide) f2
  have u0 := val_nonneg (β := 4294967296) (by decide) g2
  have HN := Lib.hid f4
  have HM := Lib.hid g4
  have HFP := Lib.hid (fun h : 0 < val 4294967296 ys' => floor_parts (s := s') (t := t') (V := val 4294967296 xs') h)
  have HE := Lib.hid hE
  clear hE v0
  obtain ⟨bX, bY, bR, bS, hlt, _⟩ := box_new4 (w := w) (v0 := .bool s) (v1 := .slice A n c) (u0 := .bool t) (u1 := .slice A2 m c2) (x0 := .bool false) (x1 := .slice none 0 0) (y0 := .bool false) (y1 := .slice none 0 0) (t := 24) (t2 := 24) (t3 := 24) (t4 := 24) (Below.refl _ _)
  have hb0 : Below w.heap.size w ((((w.alloc (.cells #[.bool s, .slice A n c] 24)).alloc (.cells #[.bool t, .slice A2 m c2] 24)).alloc (.cells #[.bool false, .slice none 0 0] 24)).alloc (.cells #[.bool false, .slice none 0 0] 24)) := (((((Below.refl _ _).alloc (by omega) _).alloc (by rw [size_one]; omega) _).alloc (by rw [size_two]; omega) _).alloc (by rw [size_three]; omega) _)
  have hz := size_four w (.cells #[.bool s, .slice A n c] 24) (.cells #[.bool t, .slice A2 m c2] 24) (.cells #[.bool false, .slice none 0 0] 24) (.cells #[.bool false, .slice none 0 0] 24)
  have HS := Lib.hid ((hs.below hb0 hB).more (Nat.le_trans hB hb0.size))
  have HT := Lib.hid ((ht.below hb0 hB).more (Nat.le_trans hB hb0.size))
  have F1 := Lib.hid ((f1.below hb0 hB).more (Nat.le_trans hB hb0.size))
  have G1 := Lib.hid ((g1.below hb0 hB).more (Nat.le_trans hB hb0.size))
  have F2 := Lib.hid f2
  have G2 := Lib.hid g2
  have BX := Lib.hid bX
  have BY := Lib.hid bY
  have BR := Lib.hid bR
  have BS := Lib.hid bS
  have HB := Lib.hid hb0
  have HP := Lib.hid hp
  have HQ := Lib.hid hq
  clear hs ht hb0 bX bY bR bS hlt f1 f2 f3 f4 g1 g2 g3 g4 hp hq hx hy
  go_enter Tryz.func23, Tryz.ntmps23
  go_wp2_with fail
  generalize ((((w.alloc (.cells #[.bool s, .slice A n c] 24)).alloc (.cells #[.bool t, .slice A2 m c2] 24)).alloc (.cells #[.bool false, .slice none 0 0] 24)).alloc (.cells #[.bool false, .slice none 0 0] 24)) = W0 at HS HT F1 G1 BX BY BR BS HB hz ⊢
  refine wp_region_chain [(2, STy.is (.pointer (some ⟨w.heap.size, 0, none⟩))), (3, STy.is (.pointer (some ⟨w.heap.size + 1, 0, none⟩))), (11, STy.is (.agg #[.bool s, .slice A n c])), (12, STy.is (sgd s' A' n' c')), (13, STy.is (.agg #[.bool t, .slice A2 m c2])), (14, STy.is (sgd t' A2' m' c2')),
      (7, STy.nbox W0.heap.size 74), (8, STy.nbox W0.heap.size 74)]
    [2, 3] [] 60 6 (by kernel_rfl) (by kernel_rfl) rfl trivial ⟨rfl, rfl, trivial⟩ ?ok ?al ?fin
  case ok =>
    repeat' first
      | exact OpStepsG.nil
      | refine OpStepsG.run ?_ ?_
      | exact stb_box (fun _ _ h => h) (cell_on BX.out.1 (by omega)) (cell_on BX.out.2.1 (by omega)) (fun _ => rfl)
      | exact stb_box (fun _ _ h => h) (cell_on BY.out.1 (by omega)) (cell_on BY.out.2.1 (by omega)) (fun _ => rfl)
      | exact st_call1 entersb_counted (T0 := fun _ v => v = .agg #[.bool s, .slice A n c]) (fun _ _ h => h) (fun W v0 hb h0 => by
          subst h0
          refine (counted_out HP.out (HS.out.below hb (Nat.le_refl _)) hb.size).mono ?_
          rintro e w' ⟨rfl, hb'⟩
          exact ⟨⟨_, rfl, rfl⟩, hb'⟩)
      | exact st_call1 entersb_counted (T0 := fun _ v => v = .agg #[.bool t, .slice A2 m c2]) (fun _ _ h => h) (fun W v0 hb h0 => by
          subst h0
          refine (counted_out HQ.out (HT.out.below hb (Nat.le_refl _)) hb.size).mono ?_
          rintro e w' ⟨rfl, hb'⟩
          exact ⟨⟨_, rfl, rfl⟩, hb'⟩)
      | exact stg_alloc (fun _ _ h => h)
  case al =>
    repeat' first
      | exact AllocsOk.nil
      | refine AllocsOk.cons ?_ ?_
      | exact fun T h ρ w => run_allocg ρ w
      | exact fun T h => nomatch h
  case fin =>
    intro v w' ho ha hb
    obtain ⟨r1, e5, h51, h52, h53⟩ := ho.slot (d := 7) (by simp [dstD])
    obtain ⟨r2, e6, h61, h62, h63⟩ := ho.slot (d := 8) (by simp [dstD])
    have e8 : v 12 = sgd s' A' n' c' := ho.slot (d := 12) (by simp [dstD])
    have e10 : v 14 = sgd t' A2' m' c2' := ho.slot (d := 14) (by simp [dstD])
    have hne : r1 ≠ r2 := fun h => ha 4 5 _ _ _ _ (by decide) rfl rfl rfl rfl rfl rfl (by show v 7 = v 8; rw [e5, e6, h])
    clear ho ha
    obtain ⟨d1, d2, d3, d4⟩ := two_boxes (k := W0.heap.size) (.bool s') (.slice A' n' c') (.bool t') (.slice A2' m' c2') h53 h63 hne h51 h61
    have hne' := hne.symm
    obtain ⟨p0, p1, p2, p3⟩ := boxed_of h53
    obtain ⟨q0, q1, q2, q3⟩ := boxed_of h63
    have D1 := Lib.hid d1
    have D2 := Lib.hid d2
    have D3 := Lib.hid (hb.trans (d3.mono (Nat.le_refl _)))
    clear d1 d2 d3 h53 h63 hb
    simp only [List.take, List.drop, List.map_cons, List.map_nil, dstD, Option.getD_some, putAll, Act.put, List.setIfInBounds_toArray, List.set_cons_succ, List.set_cons_zero, e5, e6, e8, e10]
    go_wp2_with fail
    generalize (((w'.setCell ⟨r1, 0, none⟩ (.bool s')).setCell ⟨r1, 1, none⟩ (.slice A' n' c')).setCell ⟨r2, 0, none⟩ (.bool t')).setCell ⟨r2, 1, none⟩ (.slice A2' m' c2') = W1 at D1 D2 D3 d4 ⊢
    clear p0 p1 p2 p3 q0 q1 q2 q3 e5 e6 e8 e10 hne hne'
    have hr1 : r1 < W1.heap.size := by omega
    have hr2 : r2 < W1.heap.size := by omega
    have F3 := Lib.hid ((F1.out.below D3.out (Nat.le_refl _)).more D3.out.size)
    have G3 := Lib.hid ((G1.out.below D3.out (Nat.le_refl _)).more D3.out.size)
    have hf := F1.out.len
    have hg := G1.out.len
    have hz1 := D3.out.size
    have hW1 : w.heap.size + 4 ≤ W1.heap.size := by omega
    have HB1 := Lib.hid (HB.out.trans (D3.out.mono HB.out.size))
    have BR1 := Lib.hid (Boxed.below BR.out D3.out (by omega))
    have BS1 := Lib.hid (Boxed.below BS.out D3.out (by omega))
    refine (DivMod_sep F3.out G3.out (Nat.le_refl _) (HE.out.below HB1.out hE0) (by have := HB1.out.size; omega) F2.out G2.out (by omega) (by omega)).mono ?_
    rintro e w3 (⟨hz0, rfl, hb⟩ | ⟨hpos, qs, rs, A5, n5, c5, A6, n6, c6, rfl, hq, hr, o5, o6, hsep, hb⟩)
    · have HZ := Lib.hid (show ival t ys = 0 by rw [← HM.out, hz0]; cases t' <;> rfl)
      obtain ⟨p0, p1, p2, p3⟩ := Boxed.below BR1.out hb (by omega)
      obtain ⟨q0, q1, q2, q3⟩ := Boxed.below BS1.out hb (by omega)
      have HB3 := Lib.hid (HB1.out.trans (hb.mono HB1.out.size))
      clear hb hz0 u0
      go_wp2_with fail
      refine bodyPost_ret (v := .tuple #[.agg #[.bool false, .slice none 0 0], .agg #[.bool false, .slice none 0 0], .int .i64 20]) ?_ rfl (.inl ⟨HZ.out, rfl, (((HB3.out.setCell (p := ⟨w.heap.size + 2, 0, none⟩) (show w.heap.size ≤ w.heap.size + 2 by omega) _).setCell (p := ⟨w.heap.size + 2, 1, none⟩) (show w.heap.size ≤ w.heap.size + 2 by omega) _).setCell (p := ⟨w.heap.size + 3, 0, none⟩) (show w.heap.size ≤ w.heap.size + 3 by omega) _).setCell (p := ⟨w.heap.size + 3, 1, none⟩) (show w.heap.size ≤ w.heap.size + 3 by omega) _⟩)
      simp only [results, Tryz.results23]
      go_simp
    · obtain ⟨k1, k2⟩ := HFP.out hpos
      have hM0 : ival t ys ≠ 0 := by rw [← HM.out]; cases t' <;> simp [sgv] <;> omega
      rw [HN.out, HM.out] at k1 k2
      have K1 := Lib.hid k1
      have K2 := Lib.hid k2
      have HM0 := Lib.hid hM0
      have RQ := Lib.hid hq
      have RR := Lib.hid hr
      have O5 := Lib.hid o5
      have O6 := Lib.hid o6
      have SEP := Lib.hid hsep
      have D5 := Lib.hid (D1.out.below hb hr1)
      have D6 := Lib.hid (D2.out.below hb hr2)
      have BR3 := Lib.hid (Boxed.below BR1.out hb (by omega))
      have BS3 := Lib.hid (Boxed.below BS1.out hb (by omega))
      have HB3 := Lib.hid (HB1.out.trans (hb.mono HB1.out.size))
      have F5 := Lib.hid ((F3.out.below hb (Nat.le_refl _)).more hb.size)
      have G5 := Lib.hid ((G3.out.below hb (Nat.le_refl _)).more hb.size)
      have hz3 := hb.size
      have l5 := o5.len
      have l6 := o6.len
      have hr3 : r1 < w3.heap.size := by omega
      have hr4 : r2 < w3.heap.size := by omega
      obtain ⟨p0, p1, p2, p3⟩ := D1.out.below hb hr1
      obtain ⟨q0, q1, q2, q3⟩ := D2.out.below hb hr2
      clear k1 k2 hM0 hq hr o5 o6 hsep hb D1 D2 F3 G3 BR1 BS1 HB1 HFP HN HM BX BY HS HT F1 G1 D3
      go_wp2_with fail
      refine unlike_any.mono ?_
      rintro e w4 ⟨rfl, hb⟩
      have hz4 := hb.size
      have O5' := Lib.hid (O5.out.below hb)
      have O6' := Lib.hid (O6.out.below hb)
      have D5' := Lib.hid (D5.out.below hb hr3)
      have D6' := Lib.hid (D6.out.below hb hr4)
      have BR4 := Lib.hid (Boxed.below BR3.out hb (by omega))
      have BS4 := Lib.hid (Boxed.below BS3.out hb (by omega))
      have HB4 := Lib.hid (HB3.out.trans (hb.mono HB3.out.size))
      have G6 := Lib.hid ((G5.out.below hb (Nat.le_refl _)).more hb.size)
      have hr5 : r1 < w4.heap.size := by omega
      have hr6 : r2 < w4.heap.size := by omega
      clear p0 p1 p2 p3 q0 q1 q2 q3
      obtain ⟨p0, p1, p2, p3⟩ := D5.out.below hb hr3
      obtain ⟨q0, q1, q2, q3⟩ := D6.out.below hb hr4
      clear hb O5 O6 D5 D6 BR3 BS3 HB3 F5 G5
      by_cases hdown : (s' != t') = true ∧ n6 ≠ 0
      · obtain ⟨hu, hn6⟩ := hdown
        have hrem : val 4294967296 xs' % val 4294967296 ys' ≠ 0 := fun h => hn6 (by
          have := Tr.zero (by decide) RR.out.dg RR.out.tr (RR.out.val.trans h)
          rw [this] at l6
          exact l6.symm)
        obtain ⟨k1, k2⟩ := K2.out ⟨hu, hrem⟩
        have K3 := Lib.hid k1
        have K4 := Lib.hid k2
        have hg6 := blt_pos hn6
        have rr0 := row_dig RR.out
        have hle := Int.le_of_lt (Int.emod_lt_of_pos (val 4294967296 xs') hpos)
        have hqb : n5 ≤ 1000000000 - 10 := by
          have hd : val 4294967296 xs' / val 4294967296 ys' ≤ val 4294967296 xs' := Int.ediv_le_self _ (val_nonneg (by decide) F2.out)
          have := RQ.out.len_le (k := n') (by decide) (by have := val_lt (β := 4294967296) (by decide) F2.out; rw [hf] at this; omega)
          omega
        clear k1 k2 hrem K1 K2
        go_wp2_with fail
        refine (Add_any (O5'.out.sl.alloc (Nat.le_refl _) _ |>.more (Nat.le_succ _)) (lit1 w4 w4.heap.size rfl 1 66) (by rw [size_one]; exact Nat.le_refl _) RQ.out.dg (dg1 (by omega)) (by omega) (by omega)).mono ?_
        rintro e w5 ⟨zs, hz, A7, n7, c7, rfl, o7, hb⟩
        have hb' := below_a1 hb
        have v1 : val 4294967296 [1] = 1 := by simp [val]
        rw [RQ.out.val, v1] at hz
        have RZ := Lib.hid hz
        have O7 := Lib.hid (o7.lower (show w4.heap.size ≤ _ by rw [size_one]; exact Nat.le_succ _))
        have O6a := Lib.hid (O6'.out.below hb')
        have D6a := Lib.hid (D6'.out.below hb' hr6)
        have D5a := Lib.hid (D5'.out.below hb' hr5)
        have BR5 := Lib.hid (Boxed.below BR4.out hb' (by omega))
        have BS5 := Lib.hid (Boxed.below BS4.out hb' (by omega))
        have HB5 := Lib.hid (HB4.out.trans (hb'.mono HB4.out.size))
        have G7 := Lib.hid ((G6.out.below hb' (Nat.le_refl _)).more hb'.size)
        have hz5 := hb'.size
        have hr7 : r1 < w5.heap.size := by omega
        have hr8 : r2 < w5.heap.size := by omega
        clear p0 p1 p2 p3 q0 q1 q2 q3
        obtain ⟨q0, q1, q2, q3⟩ := D6'.out.below hb' hr6
        clear hb hb' hz o7 O6' D6' D5' BR4 BS4 HB4 G6 O5'
        go_wp2_with fail
        refine (Sub_any G7.out O6a.out.sl (Nat.le_refl _) G2.out RR.out.dg (show val 4294967296 rs ≤ val 4294967296 ys' by rw [RR.out.val]; exact hle) (by omega)).mono ?_
        rintro e w6 ⟨ws, A8, n8, c8, hw, rfl, o8, hb⟩
        rw [RR.out.val] at hw
        have RW := Lib.hid hw
        have SP := Lib.hid (Sep.symm (show Sep A8 A7 from O7.out.apart o8 (Nat.le_refl _)))
        have O8 := Lib.hid (o8.lower (show w4.heap.size ≤ _ by omega))
        have O7a := Lib.hid (O7.out.below hb)
        have D5b := Lib.hid (D5a.out.below hb hr7)
        have D6b := Lib.hid (D6a.out.below hb hr8)
        have BR6 := Lib.hid (Boxed.below BR5.out hb (by omega))
        have BS6 := Lib.hid (Boxed.below BS5.out hb (by omega))
        have HB6 := Lib.hid (HB5.out.trans (hb.mono HB5.out.size))
        have hz6 := hb.size
        have hr9 : r1 < w6.heap.size := by omega
        have hrA : r2 < w6.heap.size := by omega
        have WQ := Lib.hid (show Whole ((ival s xs).fdiv (ival t ys)) (sgnOf (s' != t') n7) zs by
          have := Whole.num (s := s' != t') RZ.out (row_dig RZ.out) O7.out.len
          rw [← K3.out] at this
          exact this)
        have WR := Lib.hid (show Whole ((ival s xs).fmod (ival t ys)) (sgnOf t' n8) ws by
          have := Whole.num (s := t') RW.out (row_dig RW.out) O8.out.len
          rw [← K4.out] at this
          exact this)
        clear hb hw o8 O7 D5a D6a BR5 BS5 HB5 K3 K4 q0 q1 q2 q3 hu hg6 G7 O6a
        go_wp2_with fail
        refine wp_region_chain [(7, STy.is (.pointer (some ⟨r1, 0, none⟩))), (8, STy.is (.pointer (some ⟨r2, 0, none⟩))), (9, STy.is (.slice A7 n7 c7)), (10, STy.is (.slice A8 n8 c8)), (50, STy.is (sgd s' A' n' c')), (51, STy.is (sgd t' A2' m' c2')), (52, STy.is (.bool (s' != t'))), (53, STy.is (.slice A7 n7 c7)), (54, STy.is (.agg #[.bool (sgnOf (s' != t') n7), .slice A7 n7 c7])),
            (55, STy.is (.pointer (some ⟨r2, 0, none⟩))), (56, STy.is (.pointer (some ⟨r2, 0, none⟩))), (57, STy.is (.bool t')), (58, STy.is (.slice A8 n8 c8)), (59, STy.is (.agg #[.bool (sgnOf t' n8), .slice A8 n8 c8]))]
          [7, 8, 9, 10] [] 60 10 (by kernel_rfl) (by kernel_rfl) rfl trivial ⟨rfl, rfl, rfl, rfl, trivial⟩ ?ok ?al ?fin
        case ok =>
          repeat' first
            | exact OpStepsG.nil
            | refine OpStepsG.run ?_ ?_
            | exact stg_box (fun _ _ h => h) (cell_on D5b.out.1 hr9) (cell_on D5b.out.2.1 hr9) (fun _ => rfl)
            | exact stg_box (fun _ _ h => h) (cell_on D6b.out.1 hrA) (cell_on D6b.out.2.1 hrA) (fun _ => rfl)
            | exact stg_addr (fun _ _ h => h) (fun _ => rfl)
            | exact stb_addr0 (fun _ _ h => h) (fun _ => rfl)
            | exact st_cellB (fun _ _ h => h) (cell_on D6b.out.1 hrA) (fun _ => rfl)
            | exact st_move fun _ _ h => h
            | exact st_call2 entersb_unlike (T0 := fun _ v => v = sgd s' A' n' c') (T1 := fun _ v => v = sgd t' A2' m' c2') (fun _ _ h => h) (fun _ _ h => h) (fun W v0 v1 hb h0 h1 => by
                subst h0
                subst h1
                refine unlike_any.mono ?_
                rintro e w' ⟨rfl, hb'⟩
                exact ⟨⟨_, rfl, rfl⟩, hb'⟩)
            | exact st_call2 entersb_number (T0 := fun _ v => v = .bool (s' != t')) (T1 := fun _ v => v = .slice A7 n7 c7) (fun _ _ h => h) (fun _ _ h => h) (fun W v0 v1 hb h0 h1 => by
                subst h0
                subst h1
                refine number_any.mono ?_
                rintro e w' ⟨rfl, hb'⟩
                exact ⟨⟨_, rfl, rfl⟩, hb'⟩)
            | exact st_call2 entersb_number (T0 := fun _ v => v = .bool t') (T1 := fun _ v => v = .slice A8 n8 c8) (fun _ _ h => h) (fun _ _ h => h) (fun W v0 v1 hb h0 h1 => by
                subst h0
                subst h1
                refine number_any.mono ?_
                rintro e w' ⟨rfl, hb'⟩
                exact ⟨⟨_, rfl, rfl⟩, hb'⟩)
        case al =>
          repeat' first
            | exact AllocsOk.nil
            | refine AllocsOk.cons ?_ ?_
            | exact fun T h => nomatch h
        case fin =>
          intro v w' ho _ hb
          have e54 : v 54 = .agg #[.bool (sgnOf (s' != t') n7), .slice A7 n7 c7] := ho.slot (d := 54) (by simp [dstD])
          have e59 : v 59 = .agg #[.bool (sgnOf t' n8), .slice A8 n8 c8] := ho.slot (d := 59) (by simp [dstD])
          clear ho
          simp only [List.take, List.drop, List.map_cons, List.map_nil, dstD, Option.getD_some, putAll, Act.put, List.setIfInBounds_toArray, List.set_cons_succ, List.set_cons_zero, e54, e59]
          clear e54 e59
          obtain ⟨x0, x1, x2, x3⟩ := Boxed.below BR6.out hb (by omega)
          obtain ⟨y0, y1, y2, y3⟩ := Boxed.below BS6.out hb (by omega)
          have O7z := Lib.hid (O7a.out.below hb)
          have O8z := Lib.hid (O8.out.below hb)
          have HBz := Lib.hid (HB6.out.trans (hb.mono HB6.out.size))
          clear hb
          go_wp2_with fail
          refine bodyPost_ret (v := .tuple #[.agg #[.bool (sgnOf (s' != t') n7), .slice A7 n7 c7], .agg #[.bool (sgnOf t' n8), .slice A8 n8 c8], .int .i64 0]) ?_ rfl (DivB.put HM0.out WQ.out WR.out O7z.out O8z.out SP.out (by omega) HBz.out)
          simp only [results, Tryz.results23]
          go_simp
      · have hor : (s' != t') = false ∨ val 4294967296 xs' % val 4294967296 ys' = 0 := by
          rcases hu : (s' != t') with _ | _
          · exact .inl rfl
          · refine .inr ?_
            have h0 : n6 = 0 := Classical.byContradiction fun h => hdown ⟨hu, h⟩
            rw [h0] at l6
            rw [← RR.out.val, List.eq_nil_of_length_eq_zero l6]
            rfl
        obtain ⟨k1, k2⟩ := K1.out hor
        have WQ := Lib.hid (show Whole ((ival s xs).fdiv (ival t ys)) (sgnOf (s' != t') n5) qs by
          have := Whole.num (s := s' != t') RQ.out (row_dig RQ.out) l5
          rw [← k1] at this
          exact this)
        have WR := Lib.hid (show Whole ((ival s xs).fmod (ival t ys)) (sgnOf t' n6) rs by
          have := Whole.num (s := t') RR.out (row_dig RR.out) l6
          rw [← k2] at this
          exact this)
        have O5a := Lib.hid (O5'.out.raise O5'.out)
        clear k1 k2 K1 K2 hor G6 RQ RR u0 hpos
        rcases hu : (s' != t') with _ | _
        · rw [hu] at WQ
          clear hdown
          go_wp2_with fail
          refine wp_region_chain [(7, STy.is (.pointer (some ⟨r1, 0, none⟩))), (8, STy.is (.pointer (some ⟨r2, 0, none⟩))), (9, STy.is (.slice A5 n5 c5)), (10, STy.is (.slice A6 n6 c6)), (50, STy.is (sgd s' A' n' c')), (51, STy.is (sgd t' A2' m' c2')), (52, STy.is (.bool false)), (53, STy.is (.slice A5 n5 c5)), (54, STy.is (.agg #[.bool (sgnOf false n5), .slice A5 n5 c5])),
              (55, STy.is (.pointer (some ⟨r2, 0, none⟩))), (56, STy.is (.pointer (some ⟨r2, 0, none⟩))), (57, STy.is (.bool t')), (58, STy.is (.slice A6 n6 c6)), (59, STy.is (.agg #[.bool (sgnOf t' n6), .slice A6 n6 c6]))]
            [7, 8, 9, 10] [] 60 10 (by kernel_rfl) (by kernel_rfl) rfl trivial ⟨rfl, rfl, rfl, rfl, trivial⟩ ?ok ?al ?fin
          case ok =>
            repeat' first
              | exact OpStepsG.nil
              | refine OpStepsG.run ?_ ?_
              | exact stg_box (fun _ _ h => h) (cell_on D5'.out.1 hr5) (cell_on D5'.out.2.1 hr5) (fun _ => rfl)
              | exact stg_box (fun _ _ h => h) (cell_on D6'.out.1 hr6) (cell_on D6'.out.2.1 hr6) (fun _ => rfl)
              | exact stg_addr (fun _ _ h => h) (fun _ => rfl)
              | exact stb_addr0 (fun _ _ h => h) (fun _ => rfl)
              | exact st_cellB (fun _ _ h => h) (cell_on D6'.out.1 hr6) (fun _ => rfl)
              | exact st_move fun _ _ h => h
              | exact st_call2 entersb_unlike (T0 := fun _ v => v = sgd s' A' n' c') (T1 := fun _ v => v = sgd t' A2' m' c2') (fun _ _ h => h) (fun _ _ h => h) (fun W v0 v1 hb h0 h1 => by
                  subst h0
                  subst h1
                  refine unlike_any.mono ?_
                  rintro e w' ⟨rfl, hb'⟩
                  exact ⟨⟨_, rfl, by show Value.bool _ = _; rw [hu]⟩, hb'⟩)
              | exact st_call2 entersb_number (T0 := fun _ v => v = .bool false) (T1 := fun _ v => v = .slice A5 n5 c5) (fun _ _ h => h) (fun _ _ h => h) (fun W v0 v1 hb h0 h1 => by
                  subst h0
                  subst h1
                  refine number_any.mono ?_
                  rintro e w' ⟨rfl, hb'⟩
                  exact ⟨⟨_, rfl, rfl⟩, hb'⟩)
              | exact st_call2 entersb_number (T0 := fun _ v => v = .bool t') (T1 := fun _ v => v = .slice A6 n6 c6) (fun _ _ h => h) (fun _ _ h => h) (fun W v0 v1 hb h0 h1 => by
                  subst h0
                  subst h1
                  refine number_any.mono ?_
                  rintro e w' ⟨rfl, hb'⟩
                  exact ⟨⟨_, rfl, rfl⟩, hb'⟩)
          case al =>
            repeat' first
              | exact AllocsOk.nil
              | refine AllocsOk.cons ?_ ?_
              | exact fun T h => nomatch h
          case fin =>
            intro v w' ho _ hb
            have e54 : v 54 = .agg #[.bool (sgnOf false n5), .slice A5 n5 c5] := ho.slot (d := 54) (by simp [dstD])
            have e59 : v 59 = .agg #[.bool (sgnOf t' n6), .slice A6 n6 c6] := ho.slot (d := 59) (by simp [dstD])
            clear ho
            simp only [List.take, List.drop, List.map_cons, List.map_nil, dstD, Option.getD_some, putAll, Act.put, List.setIfInBounds_toArray, List.set_cons_succ, List.set_cons_zero, e54, e59]
            clear e54 e59
            obtain ⟨x0, x1, x2, x3⟩ := Boxed.below BR4.out hb (by omega)
            obtain ⟨y0, y1, y2, y3⟩ := Boxed.below BS4.out hb (by omega)
            have O7z := Lib.hid (O5'.out.below hb)
            have O8z := Lib.hid (O6'.out.below hb)
            have HBz := Lib.hid (HB4.out.trans (hb.mono HB4.out.size))
            clear hb
            go_wp2_with fail
            refine bodyPost_ret (v := .tuple #[.agg #[.bool (sgnOf false n5), .slice A5 n5 c5], .agg #[.bool (sgnOf t' n6), .slice A6 n6 c6], .int .i64 0]) ?_ rfl (DivB.put HM0.out WQ.out WR.out O7z.out O8z.out SEP.out (by omega) HBz.out)
            simp only [results, Tryz.results23]
            go_simp
        · have hn6 : n6 = 0 := Classical.byContradiction fun h => hdown ⟨hu, h⟩
          subst hn6
          rw [hu] at WQ
          clear hdown
          go_wp2_with fail
          refine wp_region_chain [(7, STy.is (.pointer (some ⟨r1, 0, none⟩))), (8, STy.is (.pointer (some ⟨r2, 0, none⟩))), (9, STy.is (.slice A5 n5 c5)), (10, STy.is (.slice A6 0 c6)), (50, STy.is (sgd s' A' n' c')), (51, STy.is (sgd t' A2' m' c2')), (52, STy.is (.bool true)), (53, STy.is (.slice A5 n5 c5)), (54, STy.is (.agg #[.bool (sgnOf true n5), .slice A5 n5 c5])),
              (55, STy.is (.pointer (some ⟨r2, 0, none⟩))), (56, STy.is (.pointer (some ⟨r2, 0, none⟩))), (57, STy.is (.bool t')), (58, STy.is (.slice A6 0 c6)), (59, STy.is (.agg #[.bool (sgnOf t' 0), .slice A6 0 c6]))]
            [7, 8, 9, 10] [] 60 10 (by kernel_rfl) (by kernel_rfl) rfl trivial ⟨rfl, rfl, rfl, rfl, trivial⟩ ?ok ?al ?fin
          case ok =>
            repeat' first
              | exact OpStepsG.nil
              | refine OpStepsG.run ?_ ?_
              | exact stg_box (fun _ _ h => h) (cell_on D5'.out.1 hr5) (cell_on D5'.out.2.1 hr5) (fun _ => rfl)
              | exact stg_box (fun _ _ h => h) (cell_on D6'.out.1 hr6) (cell_on D6'.out.2.1 hr6) (fun _ => rfl)
              | exact stg_addr (fun _ _ h => h) (fun _ => rfl)
              | exact stb_addr0 (fun _ _ h => h) (fun _ => rfl)
              | exact st_cellB (fun _ _ h => h) (cell_on D6'.out.1 hr6) (fun _ => rfl)
              | exact st_move fun _ _ h => h
              | exact st_call2 entersb_unlike (T0 := fun _ v => v = sgd s' A' n' c') (T1 := fun _ v => v = sgd t' A2' m' c2') (fun _ _ h => h) (fun _ _ h => h) (fun W v0 v1 hb h0 h1 => by
                  subst h0
                  subst h1
                  refine unlike_any.mono ?_
                  rintro e w' ⟨rfl, hb'⟩
                  exact ⟨⟨_, rfl, by show Value.bool _ = _; rw [hu]⟩, hb'⟩)
              | exact st_call2 entersb_number (T0 := fun _ v => v = .bool true) (T1 := fun _ v => v = .slice A5 n5 c5) (fun _ _ h => h) (fun _ _ h => h) (fun W v0 v1 hb h0 h1 => by
                  subst h0
                  subst h1
                  refine number_any.mono ?_
                  rintro e w' ⟨rfl, hb'⟩
                  exact ⟨⟨_, rfl, rfl⟩, hb'⟩)
              | exact st_call2 entersb_number (T0 := fun _ v => v = .bool t') (T1 := fun _ v => v = .slice A6 0 c6) (fun _ _ h => h) (fun _ _ h => h) (fun W v0 v1 hb h0 h1 => by
                  subst h0
                  subst h1
                  refine number_any.mono ?_
                  rintro e w' ⟨rfl, hb'⟩
                  exact ⟨⟨_, rfl, rfl⟩, hb'⟩)
          case al =>
            repeat' first
              | exact AllocsOk.nil
              | refine AllocsOk.cons ?_ ?_
              | exact fun T h => nomatch h
          case fin =>
            intro v w' ho _ hb
            have e54 : v 54 = .agg #[.bool (sgnOf true n5), .slice A5 n5 c5] := ho.slot (d := 54) (by simp [dstD])
            have e59 : v 59 = .agg #[.bool (sgnOf t' 0), .slice A6 0 c6] := ho.slot (d := 59) (by simp [dstD])
            clear ho
            simp only [List.take, List.drop, List.map_cons, List.map_nil, dstD, Option.getD_some, putAll, Act.put, List.setIfInBounds_toArray, List.set_cons_succ, List.set_cons_zero, e54, e59]
            clear e54 e59
            obtain ⟨x0, x1, x2, x3⟩ := Boxed.below BR4.out hb (by omega)
            obtain ⟨y0, y1, y2, y3⟩ := Boxed.below BS4.out hb (by omega)
            have O7z := Lib.hid (O5'.out.below hb)
            have O8z := Lib.hid (O6'.out.below hb)
            have HBz := Lib.hid (HB4.out.trans (hb.mono HB4.out.size))
            clear hb
            go_wp2_with fail
            refine bodyPost_ret (v := .tuple #[.agg #[.bool (sgnOf true n5), .slice A5 n5 c5], .agg #[.bool (sgnOf t' 0), .slice A6 0 c6], .int .i64 0]) ?_ rfl (DivB.put HM0.out WQ.out WR.out O7z.out O8z.out SEP.out (by omega) HBz.out)
            simp only [results, Tryz.results23]
            go_simp
end Go.Proofs.YtbjooeapjhaapaaGreatDoor
