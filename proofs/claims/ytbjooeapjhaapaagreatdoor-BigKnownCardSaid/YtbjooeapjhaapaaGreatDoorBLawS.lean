/- tallagelaw03.BigSums: the walk. -/
import Derived.Test.YtbjooeapjhaapaaGreatDoorBLawP
namespace Go.Proofs.YtbjooeapjhaapaaGreatDoor
open Go Go.RowKit

set_option maxRecDepth 20000 in
set_option maxHeartbeats 4000000 in
theorem BigSums_any {w : World} {B : Nat} {A : Option Addr} {n c : Nat} {l : List (Bool × List Int)} (hs : SlB w B A n c l) (hB : B ≤ w.heap.size) (hE : Env w) (hx : ∀ p ∈ l, Dg 4294967296 p.2) :
    Calls Tryz.prog 5 #[.slice A n c] w fun e w' => e = .returned (.bool true) ∧ Below w.heap.size w w' := by
  have hl := hs.len
  have hcc := hs.le
  by_cases h10 : n ≤ 10
  case neg =>
    have hg : (10 : Int) < (n : Int) := by omega
    have hgd : decide ((10 : Int) < (n : Int)) = true := decide_eq_true hg
    go_enter Tryz.func5, Tryz.ntmps5
    go_wp2_with fail
    refine (bworks hE).mono ?_
    rintro e w1 ⟨rfl, hb⟩
    go_wp2_with fail
    go_ret
    exact ⟨rfl, hb⟩
  have hg : ¬ (10 : Int) < (n : Int) := by omega
  have HX := Lib.hid hx
  have HE := Lib.hid hE
  clear hx hE
  go_enter Tryz.func5, Tryz.ntmps5
  go_wp2_with fail
  go_loopw [3, 4, 5] (fun av bv iv wr => ∃ (i c1 c2 : Nat) (A1 A2 : Option Addr) (vs us : List Value), iv = .int .i64 i ∧ i ≤ n ∧ av = .slice A1 i c1 ∧ bv = .slice A2 i c2 ∧ SumM w B l i i A1 A2 c1 c2 vs us wr ∧ ∀ p ∈ l.take i, p.2.length ≤ 30) (fun _ _ iv _ => n - (intOf iv).toNat)
  case atStart => exact ⟨0, 0, 0, none, none, [], [], rfl, Nat.zero_le _, rfl, rfl, .start, fun p hp => by simp at hp⟩
  case round =>
    obtain ⟨i, c1, c2, A1, A2, vs, us, rfl, hi, rfl, rfl, hM, h30⟩ := hrel
    by_cases hin : i < n
    · obtain ⟨b, off, s, xs, A3, n3, c3, rfl, hbB, ex, hc0, hc1, hsl⟩ := hs.at_ hin
      have hii : (i : Int) < (n : Int) := by omega
      have hb := hM.2.2.2.1
      replace hc0 := (hb.cell (p := ⟨b, off + i * 2, none⟩) (show b < _ by omega)).trans hc0
      replace hc1 := (hb.cell (p := ⟨b, off + i * 2 + 1, none⟩) (show b < _ by omega)).trans hc1
      by_cases hn3 : n3 ≤ 30
      case neg =>
        have hg3 : (30 : Int) < (n3 : Int) := by omega
        have HB := Lib.hid hb
        clear hsl hM hb
        go_wp2_with fail
        refine (bworks (HE.out.below HB.out)).mono ?_
        rintro e w1 ⟨rfl, hb1⟩
        have HB1 := Lib.hid (HB.out.trans (hb1.mono HB.out.size))
        clear hb1
        go_wp2_with fail
        go_ret
        exact ⟨rfl, HB1.out⟩
      have hg3 : ¬ (30 : Int) < (n3 : Int) := by omega
      have HB := Lib.hid hb
      have HM := Lib.hid hM
      have HS := Lib.hid hsl
      have hbs := hb.size
      clear hsl hM hb
      go_wp2_with fail
      refine (bref_any (HS.out.below HB.out hB) (Nat.le_trans hB hbs) (by omega)).mono ?_
      rintro e w1 ⟨A4, n4, c4, rfl, ho, hb1⟩
      have hne4 : blk A4 = none ∨ (blk A4 ≠ blk A1 ∧ blk A4 ≠ blk A2) := by
        cases e4 : blk A4 with
        | none => exact .inl rfl
        | some g =>
          have h4 := (ho.blk_ g e4).1
          refine .inr ⟨fun e => ?_, fun e => ?_⟩
          · have := (HM.out.1.blk_ g e.symm).2; omega
          · have := (HM.out.2.1.blk_ g e.symm).2; omega
      have hb1s := hb1.size
      have H1 := Lib.hid (HM.out.below hb1)
      have HO := Lib.hid (ho.lower hbs)
      have hbA : Below w1.heap.size w1 (w1.alloc (.cells #[.bool s, .slice A4 n4 c4] 26)) := below_new _ _
      have H2 := Lib.hid (H1.out.below hbA)
      have HO2 := Lib.hid (HO.out.below hbA)
      have HA := Lib.hid hbA
      clear ho hb1 hbA
      go_upto_region 11 with (at_builtin; (refine wpList_appV elemVR rfl _ _ rfl H2.out.1 rfl (SlV.lit 2 w1 w1.heap.size rfl [.bool s, .slice A4 n4 c4] 1 rfl (by omega) 26) rfl (by intro u hu; simp only [List.mem_cons, List.not_mem_nil, or_false] at hu; rcases hu with rfl | rfl <;> rfl) (by omega) (by unfold maxLen; omega) (by rw [size_one]; omega) ?_); intro A5 c5 w5 h5 hg5 hf5)
      have H5 := Lib.hid (H2.out.ref ex HO2.out hne4 h5 hg5 hf5)
      clear h5 hg5 hf5 hc0 hc1 H1 H2 HO HO2 HA hne4
      have hB5 := H5.out.2.2.2.1
      obtain ⟨b', off', s', xs', A6, n6, c6, hA', _, ex', hd0, hd1, hsl'⟩ := hs.at_ (show n - 1 - i < n by omega)
      injection hA' with hA'
      injection hA' with hA1 hA2
      subst hA1; subst hA2
      replace hd0 := (hB5.cell (p := ⟨b, off + (n - 1 - i) * 2, none⟩) (show b < _ by omega)).trans hd0
      replace hd1 := (hB5.cell (p := ⟨b, off + (n - 1 - i) * 2 + 1, none⟩) (show b < _ by omega)).trans hd1
      have HB5 := Lib.hid hB5
      have HS' := Lib.hid hsl'
      have exr : l.reverse[i]? = some (s', xs') := by rw [List.getElem?_reverse (by omega), hl]; exact ex'
      have q1 : IntKind.i64.wrap ((n : Int) - 1) = ((n - 1 : Nat) : Int) := by rw [IntKind.wrap_i64]; omega
      have q2 : IntKind.i64.wrap (((n - 1 : Nat) : Int) - (i : Int)) = ((n - 1 - i : Nat) : Int) := by rw [IntKind.wrap_i64]; omega
      have q3 : ((n - 1 - i : Nat) : Int) < (n : Int) := by omega
      have hbA : Below w5.heap.size w5 (w5.alloc (.cells #[.bool s', .slice A6 n6 c6] 24)) := below_new _ _
      have H6 := Lib.hid (H5.out.below hbA)
      have hb5s := hB5.size
      clear hB5 hsl' hbA
      generalize hm' : n - 1 - i = m at *
      go_upto_region 7 with (at_builtin; (refine wpList_appV elemVB rfl _ _ rfl H6.out.2.1 rfl (SlV.lit 2 w5 w5.heap.size rfl [.bool s', .slice A6 n6 c6] 1 rfl (by omega) 24) rfl (by intro u hu; simp only [List.mem_cons, List.not_mem_nil, or_false] at hu; rcases hu with rfl | rfl <;> rfl) (by omega) (by unfold maxLen; omega) (by rw [size_one]; omega) ?_); intro A7 c7 w7 h7 hg7 hf7)
      have H7 := Lib.hid (H6.out.turn exr HS'.out h7 hg7 hf7)
      clear h7 hg7 hf7 H6
      have h31 : ∀ p ∈ l.take (i + 1), p.2.length ≤ 30 := by
        intro p hp
        rw [List.take_add_one, ex] at hp
        rcases List.mem_append.1 hp with hp | hp
        · exact h30 p hp
        · obtain rfl : p = (s, xs) := by simpa using hp
          have := HS.out.len
          show xs.length ≤ 30
          omega
      go_wp2_with fail
      refine ⟨⟨i + 1, c5, c7, A5, A7, _, _, by go_num, by omega, rfl, rfl, H7.out, h31⟩, ?_⟩
      simp [intOf] <;> omega
    · obtain rfl : i = n := by omega
      obtain ⟨r1, r2⟩ := hM.rows hl hB
      have hb := hM.2.2.2.1
      have R0 := Lib.hid ((hs.below hb hB).more (Nat.le_trans hB hb.size))
      have R1 := Lib.hid r1
      have R2 := Lib.hid r2
      have HB := Lib.hid hb
      have HL : ∀ p ∈ l, p.2.length ≤ 30 := by rwa [List.take_of_length_le (by omega)] at h30
      have HXr : ∀ p ∈ l.reverse, Dg 4294967296 p.2 := fun p hp => HX.out p (List.mem_reverse.1 hp)
      have HLr : ∀ p ∈ l.reverse, p.2.length ≤ 30 := fun p hp => HL p (List.mem_reverse.1 hp)
      clear r1 r2 hb hM hs h30
      go_upto_region 12 with fail
      refine wp_region_flow [(0, STy.is (.slice A i c)), (3, STy.is (.slice A1 i c1)), (4, STy.is (.slice A2 i c2)), (43, STy.is (.slice A i c)), (44, STy.num (isum l) (31)), (45, STy.is (.slice A1 i c1)),
          (46, STy.num (isum l) (31)), (47, STy.is (.bool true)), (48, STy.is (.bool true)), (49, STy.is (.slice A2 i c2)), (50, STy.num (isum l) (31)), (51, STy.is (.slice A i c)),
          (52, STy.num (isum l) (31)), (53, STy.is (.bool true)), (54, STy.is (.bool true)), (55, STy.is (.bool true)), (56, STy.is (.bool true)), (57, STy.is (.bool true)),
          (2, STy.is (.bool true))]
          [0, 3, 4] [(48, true), (55, true)] 58 16 (by kernel_rfl) rfl ⟨fun _ _ h => h, fun _ _ h => h, trivial⟩ ⟨rfl, rfl, rfl, trivial⟩ ?_ ?_
      · repeat' first
          | exact OpStepsG.nil
          | refine OpStepsG.skip (by rfl) ?_
          | refine OpStepsG.run ?_ ?_
          | exact st_move fun _ _ h => h
          | exact st_assign fun _ _ h => h
          | exact sn_sum (fun _ _ h => h) R0.out HX.out HL h10 rfl (fun _ _ h => h)
          | exact sn_sum (fun _ _ h => h) R2.out HXr HLr h10 (isum_rev l) (fun _ _ h => h)
          | exact sn_sum3 (fun _ _ h => h) R1.out HX.out HL h10 rfl (fun _ _ h => h)
          | exact sn_sameN (fun _ _ h => h) (fun _ _ h => h) (fun _ => rfl)
          | exact sn_is (fun _ _ h => h) (fun _ _ h => h) rfl (by decide) (by decide) (fun _ => rfl)
          | exact st_pickAnd (u := true) (v := true) (fun _ _ h => h) (fun _ => fun _ _ h => h) (fun _ => rfl)
          | exact sn_works (HE.out.below HB.out) (fun _ => rfl)
      intro v w9 ho hb
      have e1 : v 2 = .bool true := ho.slot (d := 2) (by simp [dstD])
      clear ho
      simp only [List.append_eq, List.cons_append, List.nil_append, List.take, List.drop, List.map_cons, List.map_nil, dstD, Option.getD_some, putAll, Act.put, List.setIfInBounds_toArray, List.set_cons_succ, List.set_cons_zero, e1]
      clear e1
      have HB2 := Lib.hid (HB.out.trans (hb.mono HB.out.size))
      clear hb
      go_wp2_with fail
      go_ret
      exact ⟨rfl, HB2.out⟩
end Go.Proofs.YtbjooeapjhaapaaGreatDoor
