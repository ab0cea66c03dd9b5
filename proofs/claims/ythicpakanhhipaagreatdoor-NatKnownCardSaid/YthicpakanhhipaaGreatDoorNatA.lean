/- nat: addTimes, Mul: what each call answers, and leaves. -/
import Derived.Test.YthicpakanhhipaaGreatDoorLimbG
import Derived.Test.YthicpakanhhipaaGreatDoorMathD
namespace Go.Proofs.YthicpakanhhipaaGreatDoor
open Go Go.RowKit

/-- What addTimes and takeTimes leave: the row from place o on with x times X added (σ = 1) or taken (σ = -1). -/
def MacR (σ x : Int) (w : World) (B g N C o m : Nat) (S X : List Int) (cr : Int) (w' : World) : Prop :=
  ∃ S1, Own .u32 27 w' B (some ⟨g, 0, none⟩) N C S1 ∧ Mac 4294967296 σ x S X S1 o m cr ∧ w.grownBy w' (some g)

theorem Own.at_row {k : IntKind} {e : TypeId} {w : World} {B g n c : Nat} {xs : List Int} (h : Own k e w B (some ⟨g, 0, none⟩) n c xs) {i : Nat} (hi : i < n) :
    ∃ x, xs[i]? = some x ∧ w.cell? ⟨g, i, none⟩ = some (.int k x) ∧ w.frozen? ⟨g, i, none⟩ = false ∧
      ∀ y, Own k e (w.setCell ⟨g, i, none⟩ (.int k y)) B (some ⟨g, 0, none⟩) n c (xs.set i y) ∧ w.grownBy (w.setCell ⟨g, i, none⟩ (.int k y)) (some g) := by
  obtain ⟨g', x, hA, _, _, hx, hc, hf, hp⟩ := h.set hi
  injection hA with hA
  injection hA with hA
  subst hA
  exact ⟨x, hx, hc, hf, hp⟩
theorem grown_trans {a b c : World} {r : Option Nat} (h : a.grownBy b r) (h2 : b.grownBy c r) : a.grownBy c r :=
  ⟨h2.os.trans h.os, h2.tape.trans h.tape, h2.output.trans h.output, Nat.le_trans h.size h2.size, fun i hi hne => (h2.block i (Nat.lt_of_lt_of_le hi h.size) hne).trans (h.block i hi hne)⟩

set_option maxHeartbeats 1000000 in
theorem addTimes_any {w : World} {B g N C o n c m c2 : Nat} {A2 : Option Addr} {S X : List Int} {x : Int} (ho : Own .u32 27 w B (some ⟨g, 0, none⟩) N C S) (ht : Sl .u32 w B A2 m c2 X) (hB : B ≤ w.heap.size)
    (hS : Dg 4294967296 S) (hX : Dg 4294967296 X) (hx : 0 ≤ x ∧ x < 4294967296) (hmn : m ≤ n) (hnc : n ≤ c) (hfit : o + m ≤ N) :
    Calls Tryz.prog 32 #[.slice (some ⟨g, o, none⟩) n c, .slice A2 m c2, .int .u32 x] w fun e w' => ∃ cr, e = .returned (.int .u32 cr) ∧ (0 ≤ cr ∧ cr < 4294967296) ∧ MacR 1 x w B g N C o m S X cr w' := by
  have htl := ht.len
  have hm := ht.lenMax
  have hgB := ho.blk_ g rfl
  go_enter Tryz.func32, Tryz.ntmps32
  go_wp2_with fail
  go_loopw [7, 12] (fun cv iv wr => ∃ (i : Nat) (cr : Int), i ≤ m ∧ iv = .int .i64 i ∧ cv = .int .u64 cr ∧ (0 ≤ cr ∧ cr < 4294967296) ∧ MacR 1 x w B g N C o i S X cr wr) (fun _ iv _ => m - (intOf iv).toNat)
  case atStart => exact ⟨0, 0, Nat.zero_le _, rfl, rfl, by omega, S, ho, .start hS, World.grownBy.refl _ _⟩
  case round =>
    obtain ⟨i, cr, hi, rfl, rfl, hcr, S1, h1, h2, h3⟩ := hrel
    by_cases hlt : i < m
    · obtain ⟨s, hs, hcell, hfr, hput⟩ := h1.at_row (i := o + i) (by omega)
      obtain ⟨b2, off2, y, rfl, hb2, ey, hc2⟩ := (ht.grown h3 hB (fun k hk => by injection hk with hk; omega)).at_ hlt
      have hyy := hX.get ey
      have hss := h2.dg.get hs
      obtain ⟨d1, d2, d3, d4, d5⟩ := mac_digit hx hyy hss hcr
      have hw1 : IntKind.u64.wrap (x * y) = x * y := by rw [IntKind.wrap_u64]; omega
      have hnext := Lib.hid (hput ((cr + (x * y + s)) % 4294967296))
      have hstep := Lib.hid (h2.step hs ey d3 d5)
      have hg := Lib.hid h3
      have hin : i < n := by omega
      clear hput h1 h2 h3 ho ht d5
      go_wp2_with fail
      go_roundw
      case rel => exact ⟨i + 1, _, by omega, by go_num, rfl, by omega, _, hnext.out.1, hstep.out, grown_trans hg.out hnext.out.2⟩
      case measure => simp [intOf] <;> omega
    · obtain rfl : m = i := by omega
      have hfin := Lib.hid (show MacR 1 x w B g N C o m S X cr wr from ⟨S1, h1, h2, h3⟩)
      clear h1 h2 h3
      go_wp2_with fail
      go_ret
      exact ⟨cr, by go_num, by omega, hfin.out⟩

theorem Below.own {w w' : World} {g : Nat} (h : w.grownBy w' (some g)) {B : Nat} (hg : B ≤ g) (hB : B ≤ w.heap.size) : Below B w w' :=
  (Below.refl _ _).grown h hB (fun k hk => by injection hk with hk; omega)

set_option maxHeartbeats 1000000 in
theorem Mul_any {w : World} {B : Nat} {A A2 : Option Addr} {n c m c2 : Nat} {xs ys : List Int} (hs : Sl .u32 w B A n c xs) (ht : Sl .u32 w B A2 m c2 ys) (hB : B ≤ w.heap.size) (hx : Dg 4294967296 xs) (hy : Dg 4294967296 ys)
    (hn : n ≤ 400000000) (hm : m ≤ 400000000) :
    Calls Tryz.prog 11 #[.slice A n c, .slice A2 m c2] w (NewN w (val 4294967296 xs * val 4294967296 ys)) := by
  have hxl := tl_len xs
  have hyl := tl_len ys
  have hl1 := hs.len
  have hl2 := ht.len
  have hx' := tl_Dg hx
  have hy' := tl_Dg hy
  have XV := Lib.hid (tl_val 4294967296 xs)
  have YV := Lib.hid (tl_val 4294967296 ys)
  go_enter Tryz.func11, Tryz.ntmps11
  go_wp2_with fail
  refine (Trim_any hs (by omega)).mono ?_
  rintro e w1 ⟨A1, n1, c1, rfl, ho1, hb1⟩
  have ht1 := ht.below hb1 hB
  go_wp2_with fail
  refine (Trim_any ht1 (by omega)).mono ?_
  rintro e w2 ⟨A3, n3, c3, rfl, ho2, hb2⟩
  have hbw := hb1.trans (hb2.mono hb1.size)
  have s1 := (ho1.below hb2).sl
  have s2 := ho2.sl
  have e1 := s1.len
  have e2 := s2.len
  generalize tl xs = X at *
  generalize tl ys = Y at *
  clear hs ht ht1 ho1 ho2 hb1 hb2
  go_wp2_with (at_make; refine wpList_mk elemU rfl _ _ rfl (B := w2.heap.size) (n1 + n3) rfl (by first | rfl | simp) (by omega) (by omega) (by omega) (by unfold maxLen; omega) (Nat.le_refl _) ?_; intro w3 h3 hg3)
  have hmk := Mk.made h3 hg3
  clear h3 hg3
  go_loopw [20] (fun iv wr => ∃ (i : Nat) (P : List Int), i ≤ n1 ∧ iv = .int .i64 i ∧ Mk .u32 27 w2 (some ⟨w2.heap.size, 0, none⟩) (n1 + n3) (n1 + n3) P wr ∧ MulI 4294967296 X Y P i) (fun iv _ => n1 - (intOf iv).toNat)
  case atStart => exact ⟨0, _, Nat.zero_le _, rfl, hmk, by have := MulI.start (β := 4294967296) (by decide) X Y; rw [e1, e2] at this; exact this⟩
  case round =>
    obtain ⟨i, P, hi, rfl, hmr, hp⟩ := hrel
    clear hmk
    have hsz := hmr.2.size
    by_cases hlt : i < n1
    · obtain ⟨b1, off1, x, rfl, _, ex, hc1⟩ := (s1.below hmr.2 (Nat.le_refl _)).at_ hlt
      have hxx := hx'.get ex
      have hne : ¬ (n1 + n3 = i) := by omega
      have sY := s2.below hmr.2 (Nat.le_refl _)
      have HP := Lib.hid hp
      have dP := hp.dg
      have HB := Lib.hid hmr.2
      have hoP := hmr.1
      clear hp hmr
      go_wp2_with fail
      refine (addTimes_any (o := i) hoP sY hsz dP hy' hxx (by omega) (by omega) (by omega)).mono ?_
      rintro e w4 ⟨cr, rfl, hcr, S1, h1, h2, h3⟩
      obtain ⟨z, hz, hcell, hfr, hput⟩ := h1.at_row (i := i + n3) (by omega)
      have hst := HP.out.step (by decide) ex (by rw [e2]; exact h2) hcr
      rw [e2] at hst
      have hnext := Lib.hid (hput cr)
      have hstep := Lib.hid hst.2
      have hG := Lib.hid h3
      clear h1 h2 h3 hst hput HP sY hoP
      go_wp2_with fail
      go_roundw
      case rel => exact ⟨i + 1, _, by omega, by go_num, ⟨hnext.out.1, HB.out.trans ((Below.own (grown_trans hG.out hnext.out.2) (Nat.le_refl _) hsz))⟩, hstep.out⟩
      case measure => simp [intOf] <;> omega
    · obtain rfl : n1 = i := by omega
      have hnum := hp.num
      rw [List.take_of_length_le (by omega)] at hnum
      have HV := Lib.hid (show val 4294967296 P = val 4294967296 xs * val 4294967296 ys by rw [hnum, XV.out, YV.out])
      have HD := Lib.hid hp.dg
      have HB := Lib.hid (hbw.trans (hmr.2.mono hbw.size))
      have hoP := hmr.1.sl
      clear hnum hp hmr XV YV s1 s2
      go_wp2_with fail
      refine (Trim_any hoP (by omega)).mono ?_
      rintro e w5 ⟨A5, n5, c5, rfl, ho5, hb5⟩
      go_wp2_with fail
      go_ret
      exact ⟨_, ⟨tl_Dg HD.out, tl_idem _, by rw [tl_val, HV.out]⟩, A5, n5, c5, rfl, ho5.lower HB.out.size, HB.out.trans (hb5.mono HB.out.size)⟩
end Go.Proofs.YthicpakanhhipaaGreatDoor
