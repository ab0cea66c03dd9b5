/- tallageref03: Sum: what it answers. -/
import Derived.Test.YtbjooeapjhaapaaGreatDoorBRefV
import Derived.Test.YtbjooeapjhaapaaGreatDoorMathU
import Derived.Test.YtbjooeapjhaapaaGreatDoorOpenB
namespace Go.Proofs.YtbjooeapjhaapaaGreatDoor
open Go Go.RowKit

theorem enters3_add' : Enters Tryz.prog 17 := fun _ _ => by kernel_rfl
section
variable {E : List (Nat × STy)} {w0 : World} {d : Nat} {ty : TypeId} {pos : String} {af : Array Edge} {gd : Option (Nat × Bool)}
set_option maxRecDepth 20000 in
theorem st3_boxo {s r o : Nat} {u0 u1 : Value} (hp : OpIs E (.tmp s) (.pointer (some ⟨r, o, none⟩))) (h0 : ∀ W, Below w0.heap.size w0 W → W.cell? ⟨r, o, none⟩ = some u0) (h1 : ∀ W, Below w0.heap.size w0 W → W.cell? ⟨r, o + 1, none⟩ = some u1) (hd : ∀ w, (slotTy E d).holds w (.agg #[u0, u1])) :
    OpStep Tryz.prog E w0 ⟨some d, .load 26 (.tmp s), ty, pos, af, gd⟩ := by
  intro ρ w hc hf hb hs
  have e := hp _ _ hs.1
  have c0 := h0 w hb
  have c1 := h1 w hb
  clear hp hs h0 h1
  unfold Yields
  go_simp
  exact ⟨hd _, Below.refl _ _⟩
set_option maxRecDepth 20000 in
theorem st3_idx {sx si b off n c k : Nat} (hx : OpIs E (.tmp sx) (.slice (some ⟨b, off, none⟩) n c)) (hi : OpIs E (.tmp si) (.int .i64 k)) (hk : k < n) (hd : ∀ w, (slotTy E d).holds w (.pointer (some ⟨b, off + k * 2, none⟩))) :
    OpStep Tryz.prog E w0 ⟨some d, .indexAddr 36 (.tmp sx) (.tmp si), ty, pos, af, gd⟩ := by
  intro ρ w hc hf hb hs
  have h1 := hx _ _ hs.1
  have h2 := hi _ _ hs.2.1
  have hk' : (k : Int) < n := by omega
  clear hx hi hs
  unfold Yields
  go_simp
  exact ⟨hd _, Below.refl _ _⟩
end
set_option maxRecDepth 20000 in
set_option maxHeartbeats 4000000 in
theorem sum3_any {w : World} {B : Nat} {A : Option Addr} {n c L : Nat} {l : List (Bool × List Int)} (hs : SlB w B A n c l) (hB : B ≤ w.heap.size) (hx : ∀ p ∈ l, Dg 4294967296 p.2) (hL : ∀ p ∈ l, p.2.length ≤ L) (hL2 : L ≤ 1000000) (hn : n ≤ 1000000) :
    Calls Tryz.prog 41 #[.slice A n c] w (NewI w (isum l)) := by
  have hl := hs.len
  have hcc := hs.le
  go_enter Tryz.func41, Tryz.ntmps41
  go_wp2_with fail
  obtain ⟨bR, bO, hlt, _⟩ := box_new2 (w := w) (v0 := .bool false) (v1 := .slice none 0 0) (u0 := .bool false) (u1 := .slice none 0 0) (t := 26) (t2 := 26) (Below.refl _ _)
  have hb0 : Below w.heap.size w ((w.alloc (.cells #[.bool false, .slice none 0 0] 26)).alloc (.cells #[.bool false, .slice none 0 0] 26)) := ((Below.refl _ _).alloc (Nat.le_refl _) _).alloc (by rw [size_one]; omega) _
  generalize (w.alloc (.cells #[.bool false, .slice none 0 0] 26)).alloc (.cells #[.bool false, .slice none 0 0] 26) = W0 at bR bO hlt hb0 ⊢
  go_loopw [4] (fun iv wr => ∃ (i n2 c2 : Nat) (s2 : Bool) (A2 : Option Addr) (ys : List Int), iv = .int .i64 i ∧ i ≤ n ∧ Boxed wr w.heap.size (.bool false) (.slice none 0 0) ∧ Boxed wr (w.heap.size + 1) (.bool s2) (.slice A2 n2 c2) ∧ Whole (isum (l.take i)) s2 ys ∧
      Own .u32 66 wr (w.heap.size + 2) A2 n2 c2 ys ∧ w.heap.size + 1 < wr.heap.size ∧ Below w.heap.size w wr) (fun iv _ => n - (intOf iv).toNat)
  case atStart => exact ⟨0, 0, 0, false, none, [], rfl, Nat.zero_le _, bR, bO, by simpa [isum] using Whole.zero, Own.nil, hlt, hb0⟩
  case round =>
    obtain ⟨i, n2, c2, s2, A2, ys, rfl, hi, bR', bO', hW, ho, hlt', hb⟩ := hrel
    clear bR bO hlt hb0
    by_cases hin : i < n
    · obtain ⟨b, off, s, xs, A3, n3, c3, rfl, hbB, ex, hc0, hc1, hsl⟩ := (hs.below hb hB).at_ hin
      have hmem := List.mem_of_getElem? ex
      have hxd := hx _ hmem
      have hxl := hL _ hmem
      have hn3 : n3 ≤ L := by have := hsl.len; simp at hxl; omega
      have hsum := isum_next ex
      have hlen := hW.len (isum_lt hx hL (by omega : i ≤ 1000000))
      have hn2 : n2 ≤ L + 1 := by have := ho.len; omega
      have BR := Lib.hid bR'
      have BO := Lib.hid bO'
      have HB := Lib.hid hb
      have HO := Lib.hid ho
      have HWh := Lib.hid hW
      have HS := Lib.hid (hsl.more (Nat.le_trans hB hb.size))
      have HLT := Lib.hid hlt'
      have HSUM := Lib.hid hsum
      have HD := Lib.hid hxd
      have HC0 := Lib.hid (cell_on hc0 (by have := hb.size; omega))
      have HC1 := Lib.hid (cell_on hc1 (by have := hb.size; omega))
      have hcO := Lib.hid (cell_on bO'.1 hlt')
      have hcO1 := Lib.hid (cell_on bO'.2.1 hlt')
      have hii : (i : Int) < (n : Int) := by omega
      clear bR' bO' hb ho hW hsl hlt' hsum hxd hc0 hc1 hlen hxl
      go_wp2_with fail
      refine wp_region_tail [(0, STy.is (.slice (some ⟨b, off, none⟩) n c)), (3, STy.is (.pointer (some ⟨w.heap.size + 1, 0, none⟩))), (4, STy.is (.int .i64 i)), (11, STy.is (.agg #[.bool s2, .slice A2 n2 c2])), (12, STy.is (.slice (some ⟨b, off, none⟩) n c)), (13, STy.is (.int .i64 i)), (14, STy.is (.pointer (some ⟨b, off + i * 2, none⟩))),
          (15, STy.is (.agg #[.bool s, .slice A3 n3 c3])), (16, STy.newI wr.heap.size (isum (l.take (i + 1))))]
        [0, 3, 4] [] 18 6 (by kernel_rfl) rfl (by kernel_rfl) rfl trivial ⟨rfl, rfl, rfl, trivial⟩ ?ok ?fin
      case ok =>
        repeat' first
          | exact OpSteps.nil
          | refine OpSteps.cons ?_ ?_
          | exact st3_box (fun _ _ h => h) hcO.out hcO1.out (fun _ => rfl)
          | exact st_move fun _ _ h => h
          | exact st3_idx (fun _ _ h => h) (fun _ _ h => h) hin (fun _ => rfl)
          | exact st3_boxo (fun _ _ h => h) HC0.out HC1.out (fun _ => rfl)
          | exact st_call2 enters3_add' (T0 := fun _ v => v = .agg #[.bool s2, .slice A2 n2 c2]) (T1 := fun _ v => v = .agg #[.bool s, .slice A3 n3 c3]) (fun _ _ h => h) (fun _ _ h => h) (fun W v0 v1 hb h0 h1 => by
              subst h0
              subst h1
              refine (add3_any (HO.out.below hb).sl ((HS.out.below hb (Nat.le_refl _)).more hb.size) (Nat.le_refl _) HWh.out.row.dg HD.out (by omega) (by omega)).mono ?_
              rintro e w' ⟨sd, Z2, A8, n8, c8, hW2, rfl, ho2, hb2⟩
              rw [HWh.out.val, ← HSUM.out] at hW2
              exact ⟨⟨_, rfl, sd, Z2, A8, n8, c8, rfl, hW2, ho2.lower hb.size⟩, hb2⟩)
      case fin =>
        intro v w' ho hb
        obtain ⟨sc, Z, A7, n7, c7, e10, hW, hO⟩ := ho.slot (d := 16) (by simp [dstD])
        clear ho
        simp only [List.take, List.map_cons, List.map_nil, dstD, Option.getD_some, putAll, Act.put, List.setIfInBounds_toArray, List.set_cons_succ, List.set_cons_zero, e10]
        clear e10
        have BO2 := Boxed.below BO.out hb HLT.out
        have HBO := Lib.hid (BO2.put (.bool sc) (.slice A7 n7 c7))
        have HBR := Lib.hid (((Boxed.below BR.out hb (by have := HLT.out; omega)).other (q := w.heap.size + 1) (by omega) 0 (.bool sc)).other (q := w.heap.size + 1) (by omega) 1 (.slice A7 n7 c7))
        have hr : w.heap.size + 1 < wr.heap.size := HLT.out
        have HO2 := Lib.hid (((hO.box hr 0 (.bool sc)).box hr 1 (.slice A7 n7 c7)).lower (show w.heap.size + 2 ≤ wr.heap.size by omega))
        have HB2 := Lib.hid (((HB.out.trans (hb.mono HB.out.size)).setCell (p := ⟨w.heap.size + 1, 0, none⟩) (Nat.le_succ _) (.bool sc)).setCell (p := ⟨w.heap.size + 1, 1, none⟩) (Nat.le_succ _) (.slice A7 n7 c7))
        have HL2 := Lib.hid (show w.heap.size + 1 < ((w'.setCell ⟨w.heap.size + 1, 0, none⟩ (.bool sc)).setCell ⟨w.heap.size + 1, 1, none⟩ (.slice A7 n7 c7)).heap.size by rw [size_set, size_set]; exact Nat.lt_of_lt_of_le hr hb.size)
        have HW2 := Lib.hid hW
        obtain ⟨q0, q1, q2, q3⟩ := BO2
        clear hW hO hb hr
        go_wp2_with fail
        go_roundw
        case rel => exact ⟨i + 1, n7, c7, sc, A7, Z, by go_num, by omega, HBR.out, HBO.out, HW2.out, HO2.out, HL2.out, HB2.out⟩
        case measure => simp [intOf] <;> omega
    · obtain rfl : i = n := by omega
      rw [List.take_of_length_le (by omega)] at hW
      have HW := Lib.hid hW
      have HO := Lib.hid (ho.lower (show w.heap.size + 1 ≤ w.heap.size + 2 by omega))
      have HB := Lib.hid hb
      obtain ⟨q0, q1, q2, q3⟩ := bO'
      obtain ⟨r0, r1, r2, r3⟩ := bR'
      clear hW ho hb
      go_wp2_with fail
      refine bodyPost_ret (v := .agg #[.bool s2, .slice A2 n2 c2]) ?_ rfl (NewI.put HW.out (Nat.le_refl _) HO.out (Nat.lt_succ_self _) HB.out)
      simp only [results, Tryz.results41]
      go_simp
end Go.Proofs.YtbjooeapjhaapaaGreatDoor
