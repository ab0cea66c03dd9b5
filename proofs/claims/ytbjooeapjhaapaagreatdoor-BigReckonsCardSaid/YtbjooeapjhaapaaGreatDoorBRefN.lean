/- tallageref03: Sign, Abs, Neg: what each call answers. -/
import Derived.Test.YtbjooeapjhaapaaGreatDoorBStepC
namespace Go.Proofs.YtbjooeapjhaapaaGreatDoor
open Go Go.RowKit

set_option maxRecDepth 20000 in
set_option maxHeartbeats 1000000 in
theorem sign3_any {w : World} {B : Nat} {s : Bool} {A : Option Addr} {n c : Nat} {xs : List Int} (hs : Sl .u32 w B A n c xs) (hB : B ≤ w.heap.size) (hx : Dg 4294967296 xs) (hn : n ≤ 400000000) :
    Calls Tryz.prog 31 #[.agg #[.bool s, .slice A n c]] w (CmpN w (ival s xs) 0) := by
  have HX := Lib.hid hx
  clear hx
  go_enter Tryz.func31, Tryz.ntmps31
  go_wp2_with fail
  refine (cmp3_any (hs.alloc hB _) (Sl.nil (B := B)) (by rw [size_one]; omega) HX.out Dg.nil hn (by omega)).mono ?_
  rintro e w1 ⟨rfl, hb⟩
  rw [ival_nil]
  have HB := Lib.hid (below_a1 hb)
  clear hb
  go_wp2_with fail
  go_ret
  exact ⟨rfl, HB.out⟩
set_option maxRecDepth 20000 in
set_option maxHeartbeats 1000000 in
theorem abs3_any {w : World} {B : Nat} {s : Bool} {A : Option Addr} {n c : Nat} {xs : List Int} (hs : Sl .u32 w B A n c xs) (hB : B ≤ w.heap.size) (hx : Dg 4294967296 xs) (hn : n ≤ 400000000) :
    Calls Tryz.prog 21 #[.agg #[.bool s, .slice A n c]] w (NewI w ((ival s xs).natAbs : Int)) := by
  have HX := Lib.hid hx
  clear hx
  go_enter Tryz.func21, Tryz.ntmps21
  go_wp2_with fail
  refine (plain3_any ((hs.alloc hB _).alloc (by rw [size_one]; omega) _) (by rw [size_two]; omega) HX.out).mono ?_
  rintro e w1 ⟨sa, X, A3, n3, c3, rfl, sX, dX, rX, vX, lX, hb⟩
  obtain ⟨⟨p0, p1, p2, p3⟩, ⟨r0, r1, r2, r3⟩, hlt, hb1⟩ := box_new2 hb
  have hv := val_nonneg (β := 4294967296) (by decide) dX
  have HV := Lib.hid (show (((ival s xs).natAbs : Nat) : Int) = val 4294967296 X by rw [← vX]; exact sgv_abs hv)
  have hz1 := hb1.size
  clear hb vX rX hs hv
  go_wp2_with (simp only [run3_field1])
  refine (made3_any sX (Nat.le_trans hB hz1) dX (by omega)).mono ?_
  rintro e w2 ⟨sb, Y, A4, n4, c4, hW, rfl, ho, hb2⟩
  rw [sgv_false, ← HV.out] at hW
  obtain ⟨q0, q1, q2, q3⟩ := Boxed.below ⟨r0, r1, r2, r3⟩ hb2 hlt
  have HW := Lib.hid hW
  have HO := Lib.hid ho
  have HB := Lib.hid (hb1.trans (hb2.mono hz1))
  have HL := Lib.hid hlt
  clear hW ho hb1 hb2 sX dX p0 p1 p2 p3 r0 r1 r2 r3 hlt
  go_wp2_with fail
  refine bodyPost_ret (v := .agg #[.bool sb, .slice A4 n4 c4]) ?_ rfl (NewI.put HW.out (Nat.le_succ _) HO.out HL.out HB.out)
  simp only [results, Tryz.results21]
  go_simp
set_option maxRecDepth 20000 in
set_option maxHeartbeats 1000000 in
theorem neg3_any {w : World} {B : Nat} {s : Bool} {A : Option Addr} {n c : Nat} {xs : List Int} (hs : Sl .u32 w B A n c xs) (hB : B ≤ w.heap.size) (hx : Dg 4294967296 xs) (hn : n ≤ 400000000) :
    Calls Tryz.prog 20 #[.agg #[.bool s, .slice A n c]] w (NewI w (-(ival s xs))) := by
  have HX := Lib.hid hx
  clear hx
  go_enter Tryz.func20, Tryz.ntmps20
  obtain ⟨s', A', n', c', xs', hpl⟩ := PlOut.ex s A n c xs
  obtain ⟨f1, f2, f3, f4, f5⟩ := hpl.facts hs HX.out
  have HP := Lib.hid hpl
  have HF := Lib.hid (And.intro f1 (And.intro f2 f4))
  have HN := Lib.hid (show sgv (!s') (val 4294967296 xs') = -(ival s xs) by rw [← f4]; cases s' <;> simp [sgv])
  have HS := Lib.hid hs
  clear hpl f1 f2 f3 f4 hs
  go_wp2_with fail
  have hb0 : Below w.heap.size w ((w.alloc (.cells #[.bool s, .slice A n c] 26)).alloc (.cells #[.bool false, .slice none 0 0] 26)) := ((Below.refl _ _).alloc (Nat.le_refl _) _).alloc (by rw [size_one]; exact Nat.le_succ _) _
  obtain ⟨bX, bY, hlt, _⟩ := box_new2 (w := w) (v0 := .bool s) (v1 := .slice A n c) (u0 := .bool false) (u1 := .slice none 0 0) (t := 26) (t2 := 26) (Below.refl _ _)
  generalize (w.alloc (.cells #[.bool s, .slice A n c] 26)).alloc (.cells #[.bool false, .slice none 0 0] 26) = W0 at hb0 bX bY hlt ⊢
  have B0 := Lib.hid hb0
  have BX := Lib.hid bX
  have BY := Lib.hid bY
  have HL := Lib.hid hlt
  have hz := hb0.size
  clear hb0 bX bY hlt
  refine wp_region_tail [(1, STy.is (.pointer (some ⟨w.heap.size, 0, none⟩))), (3, STy.is (.agg #[.bool s, .slice A n c])), (4, STy.is (.agg #[.bool s', .slice A' n' c'])), (5, STy.is (.bool s')), (6, STy.is (.bool (!s'))), (7, STy.is (.agg #[.bool s, .slice A n c])), (8, STy.is (.agg #[.bool s', .slice A' n' c'])), (9, STy.is (.slice A' n' c')), (10, STy.newI W0.heap.size (-(ival s xs)))]
    [1] [] 11 8 (by kernel_rfl) rfl (by kernel_rfl) rfl trivial ⟨rfl, trivial⟩ ?ok ?fin
  case ok =>
    repeat' first
      | exact OpSteps.nil
      | refine OpSteps.cons ?_ ?_
      | exact st3_box (fun _ _ h => h) (cell_on BX.out.1 (by have := HL.out; omega)) (cell_on BX.out.2.1 (by have := HL.out; omega)) (fun _ => rfl)
      | exact st3_field0 (fun _ _ h => h) (fun _ => rfl)
      | exact st3_field1 (fun _ _ h => h) (fun _ => rfl)
      | exact st_notB (fun _ _ h => h) (fun _ => rfl)
      | exact st_call1 enters3_plain (T0 := fun _ v => v = .agg #[.bool s, .slice A n c]) (fun _ _ h => h) (fun W v0 hb h0 => by
          subst h0
          refine (plain3_out HP.out ((HS.out.below B0.out hB).below (hb.mono B0.out.size) hB) (Nat.le_trans hB (Nat.le_trans B0.out.size hb.size))).mono ?_
          rintro e w' ⟨rfl, hb'⟩
          exact ⟨⟨_, rfl, rfl⟩, hb'⟩)
      | exact st_call2 enters3_made (T0 := fun _ v => v = .bool (!s')) (T1 := fun _ v => v = .slice A' n' c') (fun _ _ h => h) (fun _ _ h => h) (fun W v0 v1 hb h0 h1 => by
          subst h0
          subst h1
          refine (made3_any ((HF.out.1.below B0.out hB).below (hb.mono B0.out.size) hB) (Nat.le_trans hB (Nat.le_trans B0.out.size hb.size)) HF.out.2.1 (by omega)).mono ?_
          rintro e w' ⟨sb, Y, A4, n4, c4, hW, rfl, ho, hb2⟩
          rw [HN.out] at hW
          exact ⟨⟨_, rfl, sb, Y, A4, n4, c4, rfl, hW, ho.lower hb.size⟩, hb2⟩)
  case fin =>
    intro v w' ho hb
    obtain ⟨sb, Y, A4, n4, c4, e10, hW, hO⟩ := ho.slot (d := 10) (by simp [dstD])
    clear ho
    simp only [List.take, List.map_cons, List.map_nil, dstD, Option.getD_some, putAll, Act.put, List.setIfInBounds_toArray, List.set_cons_succ, List.set_cons_zero, e10]
    clear e10
    obtain ⟨q0, q1, q2, q3⟩ := Boxed.below BY.out hb HL.out
    have HW := Lib.hid hW
    have HO := Lib.hid hO
    have HB := Lib.hid (B0.out.trans (hb.mono B0.out.size))
    clear hW hO hb
    go_wp2_with fail
    refine bodyPost_ret (v := .agg #[.bool sb, .slice A4 n4 c4]) ?_ rfl (NewI.put HW.out (Nat.le_succ _) HO.out HL.out HB.out)
    simp only [results, Tryz.results20]
    go_simp
end Go.Proofs.YtbjooeapjhaapaaGreatDoor
