/- tallagelaw03: same, spoil, ref: what each call answers, and leaves. -/
import Derived.Test.YtbjooeapjhaapaaGreatDoorBRefJ
import Derived.Test.YtbjooeapjhaapaaGreatDoorLimbG
namespace Go.Proofs.YtbjooeapjhaapaaGreatDoor
open Go Go.RowKit

set_option maxRecDepth 20000 in
set_option maxHeartbeats 1000000 in
theorem bsame_true {w : World} {B : Nat} {s : Bool} {A A2 : Option Addr} {n c n2 c2 : Nat} {xs : List Int} (hs : Sl .u32 w B A n c xs) (ht : Sl .u32 w B A2 n2 c2 xs) (hB : B ≤ w.heap.size) :
    Calls Tryz.prog 24 #[.agg #[.bool s, .slice A n c], .agg #[.bool s, .slice A2 n2 c2]] w fun e w' => e = .returned (.bool true) ∧ Below w.heap.size w w' := by
  obtain rfl : n = n2 := hs.len.symm.trans ht.len
  have hm := hs.lenMax
  have hss : (s != s) = false := by cases s <;> rfl
  have HS := (hs.alloc hB (.cells #[.bool s, .slice A n c] 24)).alloc (by rw [size_one]; omega) (.cells #[.bool s, .slice A2 n c2] 26)
  have HT := (ht.alloc hB (.cells #[.bool s, .slice A n c] 24)).alloc (by rw [size_one]; omega) (.cells #[.bool s, .slice A2 n c2] 26)
  clear hs ht
  go_enter Tryz.func24, Tryz.ntmps24
  go_wp2_with fail
  have hb0 : Below w.heap.size w ((w.alloc (.cells #[.bool s, .slice A n c] 24)).alloc (.cells #[.bool s, .slice A2 n c2] 26)) := ((Below.refl _ _).alloc (Nat.le_refl _) _).alloc (by rw [size_one]; omega) _
  obtain ⟨⟨p0, p1, p2, p3⟩, ⟨r0, r1, r2, r3⟩, hlt, _⟩ := box_new2 (w := w) (v0 := .bool s) (v1 := .slice A n c) (u0 := .bool s) (u1 := .slice A2 n c2) (t := 24) (t2 := 26) (Below.refl _ _)
  generalize (w.alloc (.cells #[.bool s, .slice A n c] 24)).alloc (.cells #[.bool s, .slice A2 n c2] 26) = W0 at HS HT hb0 p0 p1 p2 p3 r0 r1 r2 r3 hlt ⊢
  have B0 := Lib.hid hb0
  clear hb0 p2 p3 r2 r3
  go_loopw [5] (fun i wr => ∃ k q : Nat, k ≤ n ∧ i = .int .i64 k ∧ wr = W0.drewN q) (fun i _ => n - (intOf i).toNat)
  case atStart => exact ⟨0, 0, Nat.zero_le _, rfl, rfl⟩
  case round =>
    obtain ⟨k, q, hk, rfl, rfl⟩ := hrel
    by_cases hlt : k < n
    · obtain ⟨b, off, x, rfl, _, ex, hc1⟩ := HS.at_ hlt
      obtain ⟨b2, off2, y, rfl, _, ey, hc2⟩ := HT.at_ hlt
      obtain rfl : x = y := by rw [ex] at ey; injection ey
      have hki : (k : Int) < (n : Int) := by omega
      go_wp2
      go_quiet (fail)
      go_wp2
      go_roundw
      case rel => exact ⟨k + 1, _, by omega, by go_num, by first | rfl | (simp only [World.drewN_drewN]; rfl)⟩
      case measure => simp [intOf] <;> omega
    · go_wp2
      go_ret
      exact ⟨rfl, Below.drewN' B0.out q⟩
/-- A number of the call's own, whatever its limbs are. -/
def SomeU (w : World) (B : Nat) (A : Option Addr) (n c : Nat) : Prop := ∃ xs, Own .u32 66 w B A n c xs
theorem grown_tr {a b c : World} {r : Option Nat} (h : a.grownBy b r) (h2 : b.grownBy c r) : a.grownBy c r :=
  ⟨h2.os.trans h.os, h2.tape.trans h.tape, h2.output.trans h.output, Nat.le_trans h.size h2.size, fun i hi hne => (h2.block i (Nat.lt_of_lt_of_le hi h.size) hne).trans (h.block i hi hne)⟩
set_option maxRecDepth 20000 in
set_option maxHeartbeats 1000000 in
theorem bspoil_any {w : World} {B : Nat} {s : Bool} {A : Option Addr} {n c : Nat} (hs : SomeU w B A n c) :
    Calls Tryz.prog 25 #[.agg #[.bool s, .slice A n c]] w fun e w' => e = .returned (.tuple #[]) ∧ w.grownBy w' (blk A) := by
  have hm : n ≤ 9223372036854775807 := by obtain ⟨xs, h⟩ := hs; exact h.sl.lenMax
  have hg0 : w.grownBy (w.alloc (.cells #[.bool s, .slice A n c] 24)) (blk A) := by
    have h := (Below.refl w.heap.size w).alloc (Nat.le_refl _) (.cells #[.bool s, .slice A n c] 24)
    exact ⟨h.os, h.tape, h.output, h.size, fun i hi _ => h.block i hi⟩
  have HS : SomeU (w.alloc (.cells #[.bool s, .slice A n c] 24)) B A n c := by obtain ⟨xs, h⟩ := hs; exact ⟨xs, h.alloc _⟩
  have hfar : ∀ g, blk A = some g → g < w.heap.size := by obtain ⟨xs, h⟩ := hs; exact fun g hg => (h.blk_ g hg).2
  clear hs
  go_enter Tryz.func25, Tryz.ntmps25
  go_wp2_with fail
  obtain ⟨p0, p1, p2, p3, hlt, _⟩ := box_new (w := w) (v0 := .bool s) (v1 := .slice A n c) (t := 24) (Below.refl _ _)
  have bX : Boxed (w.alloc (.cells #[.bool s, .slice A n c] 24)) w.heap.size (.bool s) (.slice A n c) := ⟨p0, p1, p2, p3⟩
  generalize w.alloc (.cells #[.bool s, .slice A n c] 24) = W0 at HS hg0 bX hlt ⊢
  clear p0 p1 p2 p3
  go_loopw [2] (fun i wr => ∃ k : Nat, k ≤ n ∧ i = .int .i64 k ∧ SomeU wr B A n c ∧ w.grownBy wr (blk A) ∧ Boxed wr w.heap.size (.bool s) (.slice A n c)) (fun i _ => n - (intOf i).toNat)
  case atStart => exact ⟨0, Nat.zero_le _, rfl, HS, hg0, bX⟩
  case round =>
    obtain ⟨k, hk, rfl, ⟨xs, ho⟩, hg, hbx⟩ := hrel
    clear HS hg0 bX
    obtain ⟨p0, p1, p2, p3⟩ := hbx
    have BX := Lib.hid (show Boxed wr w.heap.size _ _ from ⟨p0, p1, p2, p3⟩)
    clear p2 p3
    by_cases hlt : k < n
    · obtain ⟨g, x, rfl, _, _, _, hcell, hfr, hput⟩ := ho.set hlt
      have hgl := hfar g rfl
      have hnext := Lib.hid (hput 77)
      have hG := Lib.hid hg
      have HF := Lib.hid hfar
      clear hput ho hg hfar
      go_wp2_with fail
      go_roundw
      case rel => exact ⟨k + 1, by omega, by go_num, ⟨_, hnext.out.1⟩, grown_tr hG.out hnext.out.2, BX.out.other (by omega) _ _⟩
      case measure => simp [intOf] <;> omega
    · have hG := Lib.hid hg
      clear hg hfar
      go_wp2_with fail
      go_end0
      exact ⟨rfl, hG.out⟩
theorem app_on {w w5 : World} (hg : w.grownBy w5 (blk none)) : Below w.heap.size w w5 := (Below.refl _ _).grown hg (Nat.le_refl _) (fun k hk => by cases hk)
/-- A number as the reference has it, in new memory. -/
def RefOf (w : World) (s : Bool) (xs : List Int) (e : Ending) (w' : World) : Prop :=
  ∃ A n c, e = .returned (.agg #[.bool s, .slice A n c]) ∧ Own .u32 66 w' w.heap.size A n c xs ∧ Below w.heap.size w w'
set_option maxRecDepth 20000 in
set_option maxHeartbeats 1000000 in
theorem bref_any {w : World} {B : Nat} {s : Bool} {A : Option Addr} {n c : Nat} {xs : List Int} (hs : Sl .u32 w B A n c xs) (hB : B ≤ w.heap.size) (hn : n ≤ 400000000) :
    Calls Tryz.prog 9 #[.agg #[.bool s, .slice A n c]] w (RefOf w s xs) := by
  obtain ⟨bX, bR, bY, hlt, _⟩ := box_new3 (w := w) (v0 := .bool s) (v1 := .slice A n c) (u0 := .bool false) (u1 := .slice none 0 0) (x0 := .bool s) (x1 := .slice none 0 0) (t := 24) (t2 := 26) (t3 := 26) (Below.refl _ _)
  have hb0 : Below w.heap.size w (((w.alloc (.cells #[.bool s, .slice A n c] 24)).alloc (.cells #[.bool false, .slice none 0 0] 26)).alloc (.cells #[.bool s, .slice none 0 0] 26)) :=
    (((Below.refl _ _).alloc (Nat.le_refl _) _).alloc (by rw [size_one]; omega) _).alloc (by rw [size_two]; omega) _
  have HS := Lib.hid (hs.below hb0 hB)
  have BR := Lib.hid bR
  have BY := Lib.hid bY
  have B0 := Lib.hid hb0
  have HL := Lib.hid hlt
  have hlen := hs.len
  clear hs bX bR bY hb0 hlt
  go_enter Tryz.func9, Tryz.ntmps9
  go_wp2_with (at_builtin; (refine wpList_app elemU rfl _ _ rfl (Own.nil (k := .u32) (e := 66) (w := ((w.alloc (.cells #[.bool s, .slice A n c] 24)).alloc (.cells #[.bool false, .slice none 0 0] 26)).alloc (.cells #[.bool s, .slice none 0 0] 26)) (B := w.heap.size + 3)) rfl HS.out rfl (by omega) (by unfold maxLen; omega) (by rw [size_three]; exact Nat.le_refl _) ?_); intro A5 c5 w5 h5 hg; go_must (have hb5 := app_on hg; obtain ⟨p0, p1, p2, p3⟩ := Boxed.below BY.out hb5 HL.out; obtain ⟨r0, r1, r2, r3⟩ := Boxed.below BR.out hb5 (by have := HL.out; omega); have H5 := Lib.hid h5; have HB5 := Lib.hid (B0.out.trans (hb5.mono B0.out.size)); clear h5 hg hb5))
  have ho := H5.out
  rw [Nat.zero_add, List.nil_append] at ho
  have HO := Lib.hid ((((ho.box (r := w.heap.size + 1 + 1) (by omega) 1 (.slice A5 n c5)).box (r := w.heap.size + 1) (by omega) 0 (.bool s)).box (r := w.heap.size + 1) (by omega) 1 (.slice A5 n c5)).lower (show w.heap.size ≤ w.heap.size + 3 by omega))
  have HB := Lib.hid (((HB5.out.setCell (p := ⟨w.heap.size + 1 + 1, 1, none⟩) (by show w.heap.size ≤ w.heap.size + 1 + 1; omega) (.slice A5 n c5)).setCell (p := ⟨w.heap.size + 1, 0, none⟩) (Nat.le_succ _) (.bool s)).setCell (p := ⟨w.heap.size + 1, 1, none⟩) (Nat.le_succ _) (.slice A5 n c5))
  clear ho
  refine bodyPost_ret (v := .agg #[.bool s, .slice A5 n c5]) ?_ rfl ⟨A5, n, c5, rfl, HO.out, HB.out⟩
  simp only [results, Tryz.results9]
  go_simp
end Go.Proofs.YtbjooeapjhaapaaGreatDoor
