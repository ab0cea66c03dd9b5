/- tallagelaw03.BigKnown: the walk. -/
import Derived.Test.YtbjooeapjhaapaaGreatDoorBLawY
namespace Go.Proofs.YtbjooeapjhaapaaGreatDoor
open Go Go.RowKit

theorem Own.not_boxB {w : World} {B : Nat} {A : Option Addr} {n c : Nat} {xs : List Int} {r : Nat} {cs : Array Value} (h : Own .u32 66 w B A n c xs) (hb : w.heap[r]? = some (.cells cs 24 (0, 0))) : blk A ≠ some r := by
  rcases h.2 with ⟨hv, _⟩ | ⟨g, cap, cur, hv, _, hg, _⟩
  · injection hv with h1
    rw [h1]
    intro e
    cases e
  · injection hv with h1
    rw [h1]
    intro e
    have e : g = r := by simpa [blk] using e
    subst e
    rw [hb] at hg
    simp at hg
def words13 : List Int := [0, 1, -1, 2, 7, -10, 4294967295, 4294967296, -4294967296, -4294967297, 9223372036854775807, -9223372036854775808, 4611686018427387904]
theorem words13_ok : ∀ x ∈ words13, -9223372036854775808 ≤ x ∧ x ≤ 9223372036854775807 := by decide
def words11 : List ByteArray := [⟨#[]⟩, ⟨#[45]⟩, ⟨#[45, 48]⟩, ⟨#[48]⟩, ⟨#[48, 48]⟩, ⟨#[45, 48, 55]⟩, ⟨#[43, 49]⟩, ⟨#[49, 32]⟩, ⟨#[45, 45, 49]⟩, ⟨#[49, 50, 97]⟩, ⟨#[49, 50, 51, 52, 53, 54, 55, 56, 57, 48, 49, 50, 51, 52, 53, 54, 55, 56, 57, 48, 49, 50, 51, 52, 53, 54, 55, 56, 57, 48]⟩]
set_option maxRecDepth 20000 in
set_option maxHeartbeats 8000000 in
theorem BigKnown_any {w : World} (hE : Env w) : Calls Tryz.prog 7 #[] w fun e w' => e = .returned (.bool true) ∧ Below w.heap.size w w' := by
  have HS := Lib.hid (Own.lit .i64 2 w (Nat.le_refl _) words13 13 rfl (by omega)).sl
  have hb0 := below_new w (.cells (words13.map (Value.int .i64)).toArray 2)
  have hlt : w.heap.size < (w.alloc (.cells (words13.map (Value.int .i64)).toArray 2)).heap.size := by rw [size_one]; omega
  have E0 := Lib.hid (hE.below hb0)
  have V0 := Lib.hid hb0
  clear hE hb0
  go_enter Tryz.func7, Tryz.ntmps7
  go_wp2_with fail
  change Code.wp _ _ _ _ (w.alloc (.cells (words13.map (Value.int .i64)).toArray 2))
  generalize (w.alloc (.cells (words13.map (Value.int .i64)).toArray 2)) = W0 at HS E0 V0 hlt ⊢
  go_loopw [2] (fun iv wr => ∃ i : Nat, iv = .int .i64 i ∧ i ≤ 13 ∧ Below W0.heap.size W0 wr) (fun iv _ => 13 - (intOf iv).toNat)
  case atStart => exact ⟨0, rfl, by omega, Below.refl _ _⟩
  case round =>
    obtain ⟨i, rfl, hi, hb⟩ := hrel
    by_cases hi13 : i < 13
    · obtain ⟨b, off, x, hA, _, ex, hc⟩ := HS.out.at_ hi13
      injection hA with hA
      injection hA with hA1 hA2
      subst hA1; subst hA2
      have hx := words13_ok x (List.mem_of_getElem? ex)
      have hii : (i : Int) < 13 := by omega
      have CI := Lib.hid ((hb.cell (p := ⟨w.heap.size, 0 + i, none⟩) hlt).trans hc)
      have HB := Lib.hid hb
      clear hb hc ex
      go_wp2_with fail
      go_loopw [3] (fun kv w1 => ∃ k : Nat, kv = .int .i64 k ∧ k ≤ 13 ∧ Below W0.heap.size W0 w1) (fun kv _ => 13 - (intOf kv).toNat)
      case atStart => exact ⟨0, rfl, by omega, HB.out⟩
      case round =>
        obtain ⟨k, rfl, hk, hb⟩ := hrel
        clear HB CI
        by_cases hk13 : k < 13
        · obtain ⟨b, off, y, hA, _, ey, hd⟩ := HS.out.at_ hk13
          injection hA with hA
          injection hA with hA1 hA2
          subst hA1; subst hA2
          obtain ⟨b, off, x', hA, _, ex', hc⟩ := HS.out.at_ hi13
          injection hA with hA
          injection hA with hA1 hA2
          subst hA1; subst hA2
          have hx' := words13_ok x' (List.mem_of_getElem? ex')
          have hy := words13_ok y (List.mem_of_getElem? ey)
          have hkk : (k : Int) < 13 := by omega
          have CI := Lib.hid ((hb.cell (p := ⟨w.heap.size, 0 + i, none⟩) hlt).trans hc)
          have CK := Lib.hid ((hb.cell (p := ⟨w.heap.size, 0 + k, none⟩) hlt).trans hd)
          have HB := Lib.hid hb
          have hbs := hb.size
          have E1 := Lib.hid (E0.out.below hb)
          clear hb hc hd ex' ey
          go_upto_region 8 with fail
          refine wp_region_chain [(1, STy.is (.slice (some ⟨w.heap.size, 0, none⟩) 13 13)), (2, STy.is (.int .i64 i)), (3, STy.is (.int .i64 k)), (23, STy.is (.slice (some ⟨w.heap.size, 0, none⟩) 13 13)), (24, STy.is (.int .i64 i)), (25, STy.is (.pointer (some ⟨w.heap.size, 0 + i, none⟩))), (26, STy.is (.int .i64 x')), (27, STy.newI wr.heap.size x'),
              (28, STy.is (.slice (some ⟨w.heap.size, 0, none⟩) 13 13)), (29, STy.is (.int .i64 k)), (30, STy.is (.pointer (some ⟨w.heap.size, 0 + k, none⟩))), (31, STy.is (.int .i64 y)), (32, STy.newI wr.heap.size y), (4, STy.nbox wr.heap.size 24), (5, STy.nbox wr.heap.size 24)]
            [1, 2, 3] [] 160 12 (by kernel_rfl) (by kernel_rfl) rfl trivial ⟨rfl, rfl, rfl, trivial⟩ ?_ ?_ ?_
          · repeat' first
              | exact OpStepsG.nil
              | refine OpStepsG.run ?_ ?_
              | exact st_move fun _ _ h => h
              | exact sk_idx (fun _ _ h => h) (fun _ _ h => h) hi13 (fun _ => rfl)
              | exact sk_idx (fun _ _ h => h) (fun _ _ h => h) hk13 (fun _ => rfl)
              | exact sk_cell (fun _ _ h => h) (cell_on CI.out (by omega)) (fun _ => rfl)
              | exact sk_cell (fun _ _ h => h) (cell_on CK.out (by omega)) (fun _ => rfl)
              | exact sk_of (fun _ _ h => h) hx' (fun _ _ h => h)
              | exact sk_of (fun _ _ h => h) hy (fun _ _ h => h)
              | exact sk_alloc (fun _ _ h => h)
          · repeat' first
              | exact AllocsOk.nil
              | refine AllocsOk.cons ?_ ?_
              | exact fun T h ρ w => run_alloc_big ρ w
              | exact fun T h => nomatch h
          intro v w2 ho ha hb
          obtain ⟨r1, e4, h41, h42, h43⟩ := ho.slot (d := 4) (by simp [dstD])
          obtain ⟨r2, e5, h51, h52, h53⟩ := ho.slot (d := 5) (by simp [dstD])
          obtain ⟨s, xs, A5, n5, c5, e27, W5, o5⟩ := ho.slot (d := 27) (by simp [dstD])
          obtain ⟨t, ys, A6, n6, c6, e32, W6, o6⟩ := ho.slot (d := 32) (by simp [dstD])
          have hne : r1 ≠ r2 := fun h => ha 10 11 _ _ _ _ (by decide) rfl rfl rfl rfl rfl rfl (by show v 4 = v 5; rw [e4, e5, h])
          clear ho ha
          obtain ⟨d1, d2, d3, d4⟩ := two_boxes (k := wr.heap.size) (.bool s) (.slice A5 n5 c5) (.bool t) (.slice A6 n6 c6) h43 h53 hne h41 h51
          have hne' := hne.symm
          obtain ⟨p0, p1, p2, p3⟩ := boxed_of h43
          obtain ⟨q0, q1, q2, q3⟩ := boxed_of h53
          have D1 := Lib.hid d1
          have D2 := Lib.hid d2
          have D3 := Lib.hid (hb.trans (d3.mono (Nat.le_refl _)))
          have O5 := Lib.hid (o5.stores (u := .bool s) (v := .slice A5 n5 c5) (x := .bool t) (y := .slice A6 n6 c6) (o5.not_boxB h43) (o5.not_boxB h53))
          have O6 := Lib.hid (o6.stores (u := .bool s) (v := .slice A5 n5 c5) (x := .bool t) (y := .slice A6 n6 c6) (o6.not_boxB h43) (o6.not_boxB h53))
          clear d1 d2 d3 h43 h53 hb o5 o6
          simp only [List.take, List.drop, List.map_cons, List.map_nil, dstD, Option.getD_some, putAll, Act.put, List.setIfInBounds_toArray, List.set_cons_succ, List.set_cons_zero, e4, e5, e27, e32]
          go_upto_region 9 with fail
          generalize (((w2.setCell ⟨r1, 0, none⟩ (.bool s)).setCell ⟨r1, 1, none⟩ (.slice A5 n5 c5)).setCell ⟨r2, 0, none⟩ (.bool t)).setCell ⟨r2, 1, none⟩ (.slice A6 n6 c6) = W3 at D1 D2 D3 d4 O5 O6 ⊢
          clear p0 p1 p2 p3 q0 q1 q2 q3 e4 e5 e27 e32
          have YA := Lib.hid (show BoxN W3 r1 x' 2 from ⟨by omega, s, A5, n5, c5, D1.out, xs, W5, O5.out.sl, by have := W5.len (of_lt hx'); have := O5.out.len; omega⟩)
          have YB := Lib.hid (show BoxN W3 r2 y 2 from ⟨by omega, t, A6, n6, c6, D2.out, ys, W6, O6.out.sl, by have := W6.len (of_lt hy); have := O6.out.len; omega⟩)
          have HB2 := Lib.hid (HB.out.trans (D3.out.mono hbs))
          have E2 := Lib.hid (E1.out.below D3.out)
          have hbs2 := HB2.out.size
          clear D1 D2 D3 d4 O5 O6 W5 W6 HB E1 CI CK h41 h51 h42 h52
          refine wp_region_chain [(4, STy.is (.pointer (some ⟨r1, 0, none⟩))), (5, STy.is (.pointer (some ⟨r2, 0, none⟩))), (33, STy.num (x') (2)), (34, STy.num (y) (2)), (35, STy.is (.bool true)), (36, STy.is (.bool false)),
              (37, STy.is (.bool false)), (38, STy.num (x') (2)), (39, STy.num (y) (2)), (40, STy.num (x') (2)), (41, STy.num (x') (2)), (42, STy.num ((x') * (x')) (4)),
              (43, STy.is (.bool true)), (44, STy.is (.bool false)), (45, STy.is (.bool false)), (46, STy.is (.bool false)), (47, STy.num (x') (2)), (48, STy.num (y) (2)),
              (49, STy.num (x') (2)), (50, STy.anys), (51, STy.is (.bool true)), (52, STy.is (.bool false)), (53, STy.is (.bool false)), (54, STy.is (.bool false)),
              (55, STy.num (x') (2)), (56, STy.num (y) (2)), (57, STy.num ((x') * (y)) (4)), (58, STy.num (y) (2)), (59, STy.is (.bool true)), (60, STy.is (.bool false))]
              [4, 5] [(37, false), (46, false), (54, false)] 160 28 (by kernel_rfl) (by kernel_rfl) rfl ⟨fun _ _ h => h, fun _ _ h => h, fun _ _ h => h, trivial⟩ ⟨rfl, rfl, trivial⟩ ?_ ?_ ?_
          · repeat' first
              | exact OpStepsG.nil
              | refine OpStepsG.skip (by rfl) ?_
              | refine OpStepsG.run ?_ ?_
              | exact st_move fun _ _ h => h
              | exact st_assign fun _ _ h => h
              | exact sn_load (fun _ _ h => h) YA.out (fun _ _ h => h)
              | exact sn_load (fun _ _ h => h) YB.out (fun _ _ h => h)
              | exact sn_mul (fun _ _ h => h) (fun _ _ h => h) (by decide) (by decide) (fun _ _ h => h)
              | exact sk_reckons (fun _ _ h => num_any h) (fun _ _ h => num_any h) E2.out (fun _ => rfl)
              | exact sk_back (fun _ _ h => num_any h) (fun _ _ h => num_any h) (fun _ _ h => num_any h) E2.out (fun _ => rfl)
              | exact sk_row3 (fun _ _ h => num_any h) (fun _ _ h => num_any h) (fun _ _ h => num_any h) (fun _ _ h => h)
              | exact sk_sums (fun _ _ h => h) E2.out (fun _ => rfl)
              | exact st_notB (u := true) (fun _ _ h => h) (fun _ => rfl)
              | exact st_pickOr (u := false) (v := false) (fun _ _ h => h) (fun _ => fun _ _ h => h) (fun _ => rfl)
          · repeat' first
              | exact AllocsOk.nil
              | refine AllocsOk.cons ?_ ?_
              | exact fun T h => nomatch h
          intro v9 w9 ho _ hb
          have e1 : v9 54 = .bool false := ho.slot (d := 54) (by simp [dstD])
          have e2 : v9 60 = .bool false := ho.slot (d := 60) (by simp [dstD])
          clear ho
          simp only [List.append_eq, List.cons_append, List.nil_append, List.take, List.drop, List.map_cons, List.map_nil, dstD, Option.getD_some, putAll, Act.put, List.setIfInBounds_toArray, List.set_cons_succ, List.set_cons_zero, e1, e2]
          clear e1 e2
          have HB3 := Lib.hid (HB2.out.trans (hb.mono hbs2))
          clear hb YA YB HB2 E2
          go_wp2_with fail
          refine ⟨⟨k + 1, by go_num, by omega, HB3.out⟩, ?_⟩
          simp [intOf] <;> omega
        · obtain rfl : k = 13 := by omega
          obtain ⟨b, off, x', hA, _, ex', hc⟩ := HS.out.at_ hi13
          injection hA with hA
          injection hA with hA1 hA2
          subst hA1; subst hA2
          have hx' := words13_ok x' (List.mem_of_getElem? ex')
          have CI := Lib.hid ((hb.cell (p := ⟨w.heap.size, 0 + i, none⟩) hlt).trans hc)
          have HB := Lib.hid hb
          have hbs := hb.size
          have E1 := Lib.hid (E0.out.below hb)
          have hp2 := (put_size (N := x') (of_lt hx') (by decide)).1
          clear hb hc ex'
          go_upto_region 11 with fail
          refine wp_region_chain ((1, STy.is (.slice (some ⟨w.heap.size, 0, none⟩) 13 13)) :: (2, STy.is (.int .i64 i)) :: (62, STy.is (.slice (some ⟨w.heap.size, 0, none⟩) 13 13)) :: (63, STy.is (.int .i64 i)) :: (64, STy.is (.pointer (some ⟨w.heap.size, 0 + i, none⟩))) :: (65, STy.is (.int .i64 x')) ::
              (66, STy.num (x') (2)) :: (67, STy.is (.slice (some ⟨w.heap.size, 0, none⟩) 13 13)) :: (68, STy.is (.int .i64 i)) :: (69, STy.is (.pointer (some ⟨w.heap.size, 0 + i, none⟩))) :: (70, STy.is (.int .i64 x')) :: (71, STy.num (x') (2)) ::
              (72, STy.num ((x') + (x')) (3)) :: (73, STy.is (.slice (some ⟨w.heap.size, 0, none⟩) 13 13)) :: (74, STy.is (.int .i64 i)) :: (75, STy.is (.pointer (some ⟨w.heap.size, 0 + i, none⟩))) :: (76, STy.is (.int .i64 x')) :: (77, STy.num (x') (2)) ::
              (78, STy.txt (putI (x'))) :: (79, STy.is (.slice (some ⟨w.heap.size, 0, none⟩) 13 13)) :: (80, STy.is (.int .i64 i)) :: (81, STy.is (.pointer (some ⟨w.heap.size, 0 + i, none⟩))) :: (82, STy.is (.int .i64 x')) :: (83, STy.is (.bool true)) ::
              (84, STy.is (.bool false)) :: (85, STy.is (.bool false)) :: (86, STy.is (.slice (some ⟨w.heap.size, 0, none⟩) 13 13)) :: (87, STy.is (.int .i64 i)) :: (88, STy.is (.pointer (some ⟨w.heap.size, 0 + i, none⟩))) :: (89, STy.is (.int .i64 x')) ::
              (90, STy.num (x') (2)) :: (91, STy.num (1) (2)) :: (92, STy.num ((x') - (1)) (3)) :: (93, STy.is (.slice (some ⟨w.heap.size, 0, none⟩) 13 13)) :: (94, STy.is (.int .i64 i)) :: (95, STy.is (.pointer (some ⟨w.heap.size, 0 + i, none⟩))) ::
              (96, STy.is (.int .i64 x')) :: (97, STy.num (x') (2)) :: (98, STy.txt (putI (x'))) :: (99, STy.str) :: (100, STy.is (.slice (some ⟨w.heap.size, 0, none⟩) 13 13)) :: (101, STy.is (.int .i64 i)) ::
              (102, STy.is (.pointer (some ⟨w.heap.size, 0 + i, none⟩))) :: (103, STy.is (.int .i64 x')) :: (104, STy.is (.bool true)) :: (105, STy.is (.bool false)) :: [])
              [1, 2] [(85, false)] 160 44 (by kernel_rfl) (by kernel_rfl) rfl ⟨fun _ _ h => h, trivial⟩ ⟨rfl, rfl, trivial⟩ ?_ ?_ ?_
          · repeat' first
              | exact OpStepsG.nil
              | refine OpStepsG.skip (by rfl) ?_
              | refine OpStepsG.run ?_ ?_
              | exact st_move fun _ _ h => h
              | exact st_assign fun _ _ h => h
              | exact sk_idx (fun _ _ h => h) (fun _ _ h => h) hi13 (fun _ => rfl)
              | exact sk_cell (fun _ _ h => h) (cell_on CI.out (by omega)) (fun _ => rfl)
              | exact sn_of (fun _ _ h => h) hx' (fun _ _ h => h)
              | exact sn_of rfl (by decide) (fun _ _ h => h)
              | exact sn_add (fun _ _ h => h) (fun _ _ h => h) (by decide) (by decide) (fun _ _ h => h)
              | exact sn_sub (fun _ _ h => h) (fun _ _ h => h) (by decide) (by decide) (fun _ _ h => h)
              | exact sn_put (fun _ _ h => h) E1.out (by decide) (fun _ _ h => h)
              | exact sk_cat (fun _ _ h => h) (Nat.le_trans hp2 (by decide)) rfl (fun _ _ h => h)
              | exact sk_texts (fun _ _ h => num_any h) (fun _ _ ⟨t, e, _⟩ => ⟨t, e⟩) (fun _ _ h => h) hx' E1.out (fun _ => rfl)
              | exact sk_texts (fun _ _ h => num_any h) (fun _ _ h => h) (fun _ _ h => h) hx' E1.out (fun _ => rfl)
              | exact st_notB (u := true) (fun _ _ h => h) (fun _ => rfl)
              | exact st_pickOr (u := false) (v := false) (fun _ _ h => h) (fun _ => fun _ _ h => h) (fun _ => rfl)
          · repeat' first
              | exact AllocsOk.nil
              | refine AllocsOk.cons ?_ ?_
              | exact fun T h => nomatch h
          intro v9 w9 ho _ hb
          have e1 : v9 85 = .bool false := ho.slot (d := 85) (by simp [dstD])
          have e2 : v9 105 = .bool false := ho.slot (d := 105) (by simp [dstD])
          clear ho
          simp only [List.append_eq, List.cons_append, List.nil_append, List.take, List.drop, List.map_cons, List.map_nil, dstD, Option.getD_some, putAll, Act.put, List.setIfInBounds_toArray, List.set_cons_succ, List.set_cons_zero, e1, e2]
          clear e1 e2
          have HB3 := Lib.hid (HB.out.trans (hb.mono hbs))
          clear hb HB E1 CI
          go_wp2_with fail
          refine ⟨⟨i + 1, by go_num, by omega, HB3.out⟩, ?_⟩
          simp [intOf] <;> omega
    · have hni : ¬ (i : Int) < 13 := by omega
      have hbs := hb.size
      have HB := Lib.hid hb
      have HL := Lib.hid (SlV.lit 1 wr wr.heap.size rfl (words11.map Value.string) 11 rfl (by omega) 9)
      have hbn := below_new wr (.cells (words11.map Value.string).toArray 9)
      have HB1 := Lib.hid (hb.trans (hbn.mono hbs))
      have hlt1 : wr.heap.size < (wr.alloc (.cells (words11.map Value.string).toArray 9)).heap.size := by rw [size_one]; omega
      clear hb hbn HS
      go_wp2_with fail
      change Code.wp _ _ _ _ (wr.alloc (.cells (words11.map Value.string).toArray 9))
      generalize hr4 : wr.heap.size = r4 at *
      generalize (wr.alloc (.cells (words11.map Value.string).toArray 9)) = W1 at HL HB1 hlt1 ⊢
      clear hr4 HB
      go_loopw [7, 109] (fun _ iv w4 => ∃ j : Nat, iv = .int .i64 j ∧ j ≤ 11 ∧ Below W1.heap.size W1 w4) (fun _ iv _ => 11 - (intOf iv).toNat)
      case atStart => exact ⟨0, rfl, by omega, Below.refl _ _⟩
      case round =>
        obtain ⟨j, rfl, hj, hb⟩ := hrel
        have hbs1 := HB1.out.size
        have hbs2 := hb.size
        by_cases hj11 : j < 11
        · obtain ⟨t, et⟩ : ∃ t, words11[j]? = some t := ⟨words11[j]'(by simpa [words11] using hj11), List.getElem?_eq_getElem _⟩
          have hc : W1.cell? ⟨r4, j, none⟩ = some (.string t) := by
            obtain ⟨b, off, hA, _, hc⟩ := HL.out.2.2.2.2 (by omega)
            injection hA with hA
            injection hA with hA1 hA2
            subst hA1; subst hA2
            have := hc j (.string t) (by rw [List.getElem?_map, et]; rfl)
            rwa [Nat.zero_add] at this
          have hc2 := (hb.cell (p := ⟨r4, j, none⟩) hlt1).trans hc
          have hjj : (j : Int) < 11 := by omega
          have HB2 := Lib.hid hb
          clear hb hc et
          go_wp2_with fail
          refine (BigTexts_any (B := 0) Sl.nil (Nat.zero_le _) ((E0.out.below HB1.out).below HB2.out) (fun x hx => by cases hx) (by decide)).mono ?_
          rintro e w5 ⟨rfl, hb5⟩
          have HB3 := Lib.hid (HB2.out.trans (hb5.mono hbs2))
          clear hb5 hc2 HB2
          go_wp2_with fail
          go_roundw
          case rel => exact ⟨j + 1, by go_num, by omega, HB3.out⟩
          case measure => simp [intOf] <;> omega
        · have hnj : ¬ (j : Int) < 11 := by omega
          have hb2 := HB1.out.trans (hb.mono hbs1)
          have EF := Lib.hid (E0.out.below hb2)
          have VF := Lib.hid (V0.out.trans (hb2.mono V0.out.size))
          clear hb hb2 HB1 HL E0 V0 hbs1 hbs2
          have hA1 := below_new wr (.cells ([0].map (Value.int .u32)).toArray 66)
          have hl1 := (Own.lit .u32 66 wr (B := 0) (Nat.zero_le _) [0] 1 rfl (by omega)).sl
          have hz1 : (wr.alloc (.cells ([0].map (Value.int .u32)).toArray 66)).heap.size = wr.heap.size + 1 := size_one _ _
          have hA2 := below_new (wr.alloc (.cells ([0].map (Value.int .u32)).toArray 66)) (.cells ([5, 0].map (Value.int .u32)).toArray 66)
          have hl2 := (Own.lit .u32 66 (wr.alloc (.cells ([0].map (Value.int .u32)).toArray 66)) (B := 0) (Nat.zero_le _) [5, 0] 2 rfl (by omega)).sl
          have hz2 : ((wr.alloc (.cells ([0].map (Value.int .u32)).toArray 66)).alloc (.cells ([5, 0].map (Value.int .u32)).toArray 66)).heap.size = wr.heap.size + 2 := by rw [size_one, size_one]
          rw [hz1] at hl2 hA2
          have hl1' := (hl1.below hA2 (by rw [hz1]; exact Nat.le_refl _)).more (show _ ≤ ((wr.alloc (.cells ([0].map (Value.int .u32)).toArray 66)).alloc (.cells ([5, 0].map (Value.int .u32)).toArray 66)).heap.size by rw [hz1, hz2]; omega)
          have HT0 := SlB.three (s := true) (t := false) (u := true) Sl.nil hl1' hl2 24
          have hA3 := below_new ((wr.alloc (.cells ([0].map (Value.int .u32)).toArray 66)).alloc (.cells ([5, 0].map (Value.int .u32)).toArray 66)) (.cells #[.bool true, .slice none 0 0, .bool false, .slice (some ⟨wr.heap.size, 0, none⟩) 1 1, .bool true, .slice (some ⟨wr.heap.size + 1, 0, none⟩) 2 2] 24)
          have hbT := (hA1.trans (hA2.mono (by omega))).trans (hA3.mono (by rw [hz2]; omega))
          have hz3 : (((wr.alloc (.cells ([0].map (Value.int .u32)).toArray 66)).alloc (.cells ([5, 0].map (Value.int .u32)).toArray 66)).alloc (.cells #[.bool true, .slice none 0 0, .bool false, .slice (some ⟨wr.heap.size, 0, none⟩) 1 1, .bool true, .slice (some ⟨wr.heap.size + 1, 0, none⟩) 2 2] 24)).heap.size = wr.heap.size + 3 := by rw [size_one, hz2]
          rw [hz2] at HT0
          have HT := Lib.hid (HT0.more (B' := (((wr.alloc (.cells ([0].map (Value.int .u32)).toArray 66)).alloc (.cells ([5, 0].map (Value.int .u32)).toArray 66)).alloc (.cells #[.bool true, .slice none 0 0, .bool false, .slice (some ⟨wr.heap.size, 0, none⟩) 1 1, .bool true, .slice (some ⟨wr.heap.size + 1, 0, none⟩) 2 2] 24)).heap.size) (by rw [hz3]; omega))
          have hodd : ∀ p ∈ [(true, ([] : List Int)), (false, [0]), (true, [5, 0])], Dg 4294967296 p.2 := by
            intro p hp
            simp only [List.mem_cons, List.not_mem_nil, or_false] at hp
            rcases hp with rfl | rfl | rfl <;> intro x hx <;> simp at hx <;> omega
          have EG := Lib.hid (EF.out.below hbT)
          have VG := Lib.hid (VF.out.trans (hbT.mono VF.out.size))
          clear hA1 hA2 hA3 hl1 hl2 hl1' hz1 hz2 hz3 HT0 hbT EF VF
          go_wp2_with fail
          change Code.wp _ _ _ _ (((wr.alloc (.cells ([0].map (Value.int .u32)).toArray 66)).alloc (.cells ([5, 0].map (Value.int .u32)).toArray 66)).alloc (.cells #[.bool true, .slice none 0 0, .bool false, .slice (some ⟨wr.heap.size, 0, none⟩) 1 1, .bool true, .slice (some ⟨wr.heap.size + 1, 0, none⟩) 2 2] 24))
          generalize (((wr.alloc (.cells ([0].map (Value.int .u32)).toArray 66)).alloc (.cells ([5, 0].map (Value.int .u32)).toArray 66)).alloc (.cells #[.bool true, .slice none 0 0, .bool false, .slice (some ⟨wr.heap.size, 0, none⟩) 1 1, .bool true, .slice (some ⟨wr.heap.size + 1, 0, none⟩) 2 2] 24)) = W5 at HT EG VG ⊢
          generalize wr.heap.size = r5 at *
          go_loopw [9] (fun iv w6 => ∃ m : Nat, iv = .int .i64 m ∧ m ≤ 3 ∧ Below W5.heap.size W5 w6) (fun iv _ => 3 - (intOf iv).toNat)
          case atStart => exact ⟨0, rfl, by omega, Below.refl _ _⟩
          case round =>
            obtain ⟨m, rfl, hm, hb⟩ := hrel
            by_cases hm3 : m < 3
            · have hmm : (m : Int) < 3 := by omega
              have hbs := hb.size
              obtain ⟨b, off, s, xs, A9, n9, c9, hA, hbB, ex, hc0, hc1, hsl⟩ := (HT.out.below hb (Nat.le_refl _)).at_ hm3
              injection hA with hA
              injection hA with hA1 hA2
              subst hA1; subst hA2
              have hxs := hodd _ (List.mem_of_getElem? ex)
              have C0 := Lib.hid hc0
              have C1 := Lib.hid hc1
              have HSX := Lib.hid (hsl.more hbs)
              have HR := Lib.hid ((HT.out.below hb (Nat.le_refl _)).more hbs)
              have EH := Lib.hid (EG.out.below hb)
              have HB := Lib.hid hb
              have hrb := Nat.lt_of_lt_of_le hbB hbs
              clear hb hc0 hc1 hsl ex
              go_upto_region 23 with fail
              refine wp_region_chain [(8, STy.is (.slice (some ⟨r5 + 2, 0, none⟩) 3 3)), (9, STy.is (.int .i64 m)), (130, STy.is (.slice (some ⟨r5 + 2, 0, none⟩) 3 3)), (131, STy.is (.int .i64 m)), (132, STy.is (.pointer (some ⟨r5 + 2, 0 + m * 2, none⟩))), (133, STy.any1),
                  (134, STy.num (3) (2)), (135, STy.is (.bool true)), (136, STy.is (.bool false)), (137, STy.is (.bool false)), (138, STy.num (3) (2)), (139, STy.is (.slice (some ⟨r5 + 2, 0, none⟩) 3 3)),
                  (140, STy.is (.int .i64 m)), (141, STy.is (.pointer (some ⟨r5 + 2, 0 + m * 2, none⟩))), (142, STy.any1), (143, STy.is (.bool true)), (144, STy.is (.bool false)), (145, STy.is (.bool false)),
                  (146, STy.is (.bool false)), (147, STy.is (.slice (some ⟨r5 + 2, 0, none⟩) 3 3)), (148, STy.is (.int .i64 m)), (149, STy.is (.pointer (some ⟨r5 + 2, 0 + m * 2, none⟩))), (150, STy.any1), (151, STy.is (.bool true)),
                  (152, STy.is (.bool false)), (153, STy.is (.bool false)), (154, STy.is (.bool false)), (155, STy.is (.slice (some ⟨r5 + 2, 0, none⟩) 3 3)), (156, STy.is (.bool true)), (157, STy.is (.bool false))]
                  [8, 9] [(137, false), (146, false), (154, false)] 160 28 (by kernel_rfl) (by kernel_rfl) rfl ⟨fun _ _ h => h, fun _ _ h => h, fun _ _ h => h, trivial⟩ ⟨rfl, rfl, trivial⟩ ?_ ?_ ?_
              · repeat' first
                  | exact OpStepsG.nil
                  | refine OpStepsG.skip (by rfl) ?_
                  | refine OpStepsG.run ?_ ?_
                  | exact st_move fun _ _ h => h
                  | exact st_assign fun _ _ h => h
                  | exact stb_idx (fun _ _ h => h) (fun _ _ h => h) hm3 (fun _ => rfl)
                  | exact sk_loadany (fun _ _ h => h) (cell_on C0.out hrb) (cell_on C1.out hrb) HSX.out hxs (fun _ _ h => h)
                  | exact sn_of rfl (by decide) (fun _ _ h => h)
                  | exact sk_reckons (fun _ _ h => h) (fun _ _ h => num_any h) EH.out (fun _ => rfl)
                  | exact sk_reckons (fun _ _ h => num_any h) (fun _ _ h => h) EH.out (fun _ => rfl)
                  | exact sk_texts (fun _ _ h => h) (fun _ => ⟨_, rfl⟩) rfl (by decide) EH.out (fun _ => rfl)
                  | exact sk_sumsI (fun _ _ h => h) HR.out hodd EH.out (fun _ => rfl)
                  | exact st_notB (u := true) (fun _ _ h => h) (fun _ => rfl)
                  | exact st_pickOr (u := false) (v := false) (fun _ _ h => h) (fun _ => fun _ _ h => h) (fun _ => rfl)
              · repeat' first
                  | exact AllocsOk.nil
                  | refine AllocsOk.cons ?_ ?_
                  | exact fun T h => nomatch h
              intro v9 w9 ho _ hb
              have e1 : v9 154 = .bool false := ho.slot (d := 154) (by simp [dstD])
              have e2 : v9 157 = .bool false := ho.slot (d := 157) (by simp [dstD])
              clear ho
              simp only [List.append_eq, List.cons_append, List.nil_append, List.take, List.drop, List.map_cons, List.map_nil, dstD, Option.getD_some, putAll, Act.put, List.setIfInBounds_toArray, List.set_cons_succ, List.set_cons_zero, e1, e2]
              clear e1 e2
              have HB3 := Lib.hid (HB.out.trans (hb.mono hbs))
              clear hb HB EH C0 C1 HSX HR
              go_wp2_with fail
              refine ⟨⟨m + 1, by go_num, by omega, HB3.out⟩, ?_⟩
              simp [intOf] <;> omega
            · have hnm : ¬ (m : Int) < 3 := by omega
              have VH := Lib.hid (VG.out.trans (hb.mono VG.out.size))
              have EH := Lib.hid (EG.out.below hb)
              clear hb
              go_wp2_with fail
              refine (bworks EH.out).mono ?_
              rintro e w7 ⟨rfl, hb7⟩
              have VI := Lib.hid (VH.out.trans (hb7.mono VH.out.size))
              clear hb7
              go_wp2_with fail
              go_ret
              exact ⟨rfl, VI.out⟩
end Go.Proofs.YtbjooeapjhaapaaGreatDoor
