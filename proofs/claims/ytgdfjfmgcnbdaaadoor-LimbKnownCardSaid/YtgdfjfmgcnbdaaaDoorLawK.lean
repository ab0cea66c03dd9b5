/- tallagelaw01: LimbKnown: it returns true. -/
import Derived.Test.YtgdfjfmgcnbdaaaDoorLawE
import Derived.StillTailTactics
namespace Go.Proofs.YtgdfjfmgcnbdaaaDoor
open Go Go.RowKit

theorem SlS.none_ {w : World} {B : Nat} : SlS w B none 0 0 [] := ⟨rfl, Nat.le_refl _, Nat.zero_le _, fun _ => rfl, fun h => absurd h (by omega)⟩
theorem SlS.three (w : World) {B : Nat} {A A2 A3 : Option Addr} {n c m c2 k c3 : Nat} {xs ys zs : List Int} (hB : B ≤ w.heap.size) (hs : Sl .u32 w B A n c xs) (ht : Sl .u32 w B A2 m c2 ys) (hz : Sl .u32 w B A3 k c3 zs) (t : TypeId) :
    SlS (w.alloc (.cells #[.slice A n c, .slice A2 m c2, .slice A3 k c3] t)) (w.heap.size + 1) (some ⟨w.heap.size, 0, none⟩) 3 3 [xs, ys, zs] := by
  refine ⟨rfl, Nat.le_refl _, by unfold maxLen; omega, fun h => (by cases h), fun _ => ⟨w.heap.size, 0, rfl, by omega, fun j us hz' => ?_⟩⟩
  have hj : j < 3 := (List.getElem?_eq_some_iff.1 hz').1
  rcases j with _ | _ | _ | j
  · simp at hz'; subst hz'
    exact ⟨A, n, c, by simp [World.cell?_alloc_new], (hs.alloc hB _).more (by omega)⟩
  · simp at hz'; subst hz'
    exact ⟨A2, m, c2, by simp [World.cell?_alloc_new], (ht.alloc hB _).more (by omega)⟩
  · simp at hz'; subst hz'
    exact ⟨A3, k, c3, by simp [World.cell?_alloc_new], (hz.alloc hB _).more (by omega)⟩
  · omega
/-- A literal's slice. -/
theorem Sl.lit (k : IntKind) (w : World) (xs : List Int) (t : TypeId) (n : Nat) (hn : xs.length = n) (hm : n ≤ 1000) : Sl k (w.alloc (.cells (xs.map (Value.int k)).toArray t)) (w.heap.size + 1) (some ⟨w.heap.size, 0, none⟩) n n xs := by
  refine ⟨hn, Nat.le_refl _, by unfold maxLen; omega, fun h => (by cases h), fun _ => ⟨w.heap.size, 0, rfl, by omega, fun j y hy => ?_⟩⟩
  have hj := (List.getElem?_eq_some_iff.1 hy).1
  rw [Nat.zero_add]
  simp [World.cell?_alloc_new, hy]
theorem LimbBack_int {w : World} {B : Nat} {A A2 : Option Addr} {n c m c2 : Nat} {xs ys : List Int} {d v : Int} (hs : Sl .u32 w B A n c xs) (ht : Sl .u32 w B A2 m c2 ys) (hB : B ≤ w.heap.size) (hx : Dg 4294967296 xs) (hy : Dg 4294967296 ys)
    (hd : 0 ≤ d ∧ d < 4294967296) (hv : 0 ≤ v ∧ v < 65536) (hT : HalfT w) (h0 : 0 < w.heap.size) :
    Calls Tryd.prog 6 #[.slice A n c, .slice A2 m c2, .int .u32 d, .int .u16 v] w fun e w' => e = .returned (.bool true) ∧ Below w.heap.size w w' := by
  obtain ⟨s, rfl⟩ : ∃ s : Nat, v = (s : Int) := ⟨v.toNat, by omega⟩
  exact LimbBack_any hs ht hB hx hy hd (by omega) hT h0
/-- A one, k limbs up. -/
theorem rep_row (k : Nat) : Row 4294967296 (2 ^ (32 * k) * val 4294967296 [1]) (List.replicate k 0 ++ [1]) := by
  refine ⟨Dg.append (Dg.zeros (by decide) k) (dg1 (by omega)), ?_, ?_⟩
  · induction k with
    | zero => rfl
    | succ k ih =>
      unfold Tr at *
      rw [List.replicate_succ, List.cons_append]
      simp only [tl, ih]
      simp
  · rw [val_append, val_zeros, List.length_replicate, Int.zero_add, show (4294967296 : Int) = 2 ^ 32 from rfl, ← Int.pow_mul]
theorem rep_last (k : Nat) : (List.replicate k (0 : Int) ++ [1])[k]? = some 1 := by simp
def OneR (w : World) (k : Nat) (e : Ending) (w' : World) : Prop :=
  ∃ b off n c, n = k + 1 ∧ e = .returned (.tuple #[.slice (some ⟨b, off, none⟩) n c, .int .i64 0]) ∧ w'.cell? ⟨b, off + k, none⟩ = some (.int .u32 1) ∧ Below w.heap.size w w'
theorem Shift_one {w : World} {B : Nat} {A : Option Addr} {n c : Nat} {v : Int} {k m : Nat} (hv : v = (m : Int)) (hk : m = 32 * k) (hs : Sl .u32 w B A n c [1]) (hB : B ≤ w.heap.size) (hm : m ≤ 65536) :
    Calls Tryd.prog 28 #[.slice A n c, .int .i64 v] w (OneR w k) := by
  subst hv
  have hl := hs.len
  simp at hl
  refine (Shift_up hs hB (dg1 (by omega)) (by omega) hm).mono ?_
  rintro e w' ⟨ys, A, n, c, hr, rfl, ho, hb⟩
  subst hk
  have hu := hr.uniq (by decide) (rep_row k)
  subst hu
  have hn := ho.len
  simp at hn
  obtain ⟨b, off, x, rfl, _, ex, hc⟩ := ho.sl.at_ (j := k) (by omega)
  rw [rep_last] at ex
  injection ex with ex
  subst ex
  exact ⟨b, off, n, c, by omega, rfl, hc, hb⟩
/-- What holds beside the drawn calls. -/
theorem hold_drew {w W : World} {p : Addr} {v : Value} (h : Below w.heap.size w W ∧ W.cell? p = some v) : Below w.heap.size w W.drew ∧ W.drew.cell? p = some v := ⟨h.1.drew, h.2⟩
theorem hold_alloc {w W : World} {p : Addr} {v : Value} (hp : p.block < w.heap.size) (o : Obj) (h : Below w.heap.size w W ∧ W.cell? p = some v) : Below w.heap.size w (W.alloc o) ∧ (W.alloc o).cell? p = some v :=
  ⟨h.1.alloc h.1.size _, (World.cell?_alloc_lt _ _ _ (Nat.lt_of_lt_of_le hp h.1.size)).trans h.2⟩
theorem hold_call {w W W' : World} {p : Addr} {v : Value} (hp : p.block < w.heap.size) (hb : Below W.heap.size W W') (h : Below w.heap.size w W ∧ W.cell? p = some v) : Below w.heap.size w W' ∧ W'.cell? p = some v :=
  ⟨h.1.trans (hb.mono h.1.size), (hb.cell (p := p) (Nat.lt_of_lt_of_le hp h.1.size)).trans h.2⟩
theorem hold_out {w0 w W : World} {p : Addr} {v : Value} (h0 : Below w0.heap.size w0 w) (h : Below w.heap.size w W ∧ W.cell? p = some v) : Below w0.heap.size w0 W := h0.trans (h.1.mono h0.size)
theorem lit3 (w : World) (x y z : Int) (t : TypeId) : Sl .u32 (w.alloc (.cells #[.int .u32 x, .int .u32 y, .int .u32 z] t)) (w.heap.size + 1) (some ⟨w.heap.size, 0, none⟩) 3 3 [x, y, z] := Sl.lit .u32 w [x, y, z] t 3 rfl (by omega)
/-- What a shift is called with. -/
structure Arg (n c : Nat) (A : Option Addr) (W : World) : Prop where
  read : ∃ xs, Sl .u32 W W.heap.size A n c xs ∧ Dg 4294967296 xs
theorem arg1 {W : World} {x : Int} {t : TypeId} (hx : 0 ≤ x ∧ x < 4294967296) : Arg 1 1 (some ⟨W.heap.size, 0, none⟩) (W.alloc (.cells #[.int .u32 x] t)).drew :=
  ⟨[x], ((lit1 W _ rfl x t).more (B' := (W.alloc (.cells #[.int .u32 x] t)).heap.size) (by rw [size_one]; exact Nat.le_refl _)).drew1, dg1 hx⟩
theorem arg2 {W : World} {x : Int} {t : TypeId} (hx : 0 ≤ x ∧ x < 4294967296) : Arg 2 2 (some ⟨W.heap.size, 0, none⟩) (W.alloc (.cells #[.int .u32 0, .int .u32 x] t)) :=
  ⟨[0, x], (lit2 W _ rfl 0 x t).more (by rw [size_one]; exact Nat.le_refl _), dg2 (by omega) hx⟩
theorem arg3 {W : World} {x : Int} {t : TypeId} (hx : 0 ≤ x ∧ x < 4294967296) : Arg 3 3 (some ⟨W.heap.size, 0, none⟩) (W.alloc (.cells #[.int .u32 x, .int .u32 5, .int .u32 x] t)) :=
  ⟨[x, 5, x], (lit3 W x 5 x t).more (by rw [size_one]; exact Nat.le_refl _), Dg.cons hx (dg2 (by omega) hx)⟩
theorem shift_arg {w W : World} {A : Option Addr} {n c : Nat} {s : Int} {p : Addr} {v : Value} (hp : p.block < w.heap.size) (KT : Hid (∀ W, Below w.heap.size w W → HalfT W ∧ 0 < W.heap.size)) (hn : -9223372036854775808 ≤ s ∧ s ≤ 9223372036854775807)
    (hS : Below w.heap.size w W ∧ W.cell? p = some v) (hA : Arg n c A W) :
    Calls Tryd.prog 5 #[.slice A n c, .int .i64 s] W fun e w' => e = .returned (.bool true) ∧ (Below w.heap.size w w' ∧ w'.cell? p = some v) := by
  obtain ⟨xs, hs, hx⟩ := hA.read
  refine (LimbShift_any hs (Nat.le_refl _) hx hn.1 hn.2 (KT.out _ hS.1).1 (KT.out _ hS.1).2).mono ?_
  rintro e w' ⟨rfl, h⟩
  exact ⟨rfl, hold_call hp h hS⟩
/-- The limbs that are tried. -/
def tried : List Int := [0, 1, 2, 3, 10, 65535, 65536, 65537, 2147483647, 2147483648, 4294967294, 4294967295]
theorem tried_dg : Dg 4294967296 tried := by
  intro x hx
  simp [tried] at hx
  omega
/-- The shifts that are tried. -/
def shifts : List Int := [-100, -65, -64, -63, -33, -32, -31, -1, 0, 1, 31, 32, 33, 63, 64, 65, 65537, 9223372036854775807, -9223372036854775808]
theorem shifts_ok : ∀ x ∈ shifts, -9223372036854775808 ≤ x ∧ x ≤ 9223372036854775807 := by
  intro x hx
  simp [shifts] at hx
  omega

set_option maxRecDepth 100000 in
set_option maxHeartbeats 4000000 in
theorem LimbKnown_any {w : World} (hT : HalfT w) (h0 : 0 < w.heap.size) :
    Calls Tryd.prog 7 #[] w fun e w' => e = .returned (.bool true) ∧ Below w.heap.size w w' := by
  have HT := Lib.hid hT
  clear hT
  go_enter Tryd.func7, Tryd.ntmps7
  go_wp2_with fail
  have sl : Sl .u32 (w.alloc (.cells (tried.map (Value.int .u32)).toArray 37)) (w.heap.size + 1) (some ⟨w.heap.size, 0, none⟩) 12 12 tried := Sl.lit .u32 w tried _ 12 rfl (by omega)
  have b1 : Below w.heap.size w (w.alloc (.cells (tried.map (Value.int .u32)).toArray 37)) := (Below.refl _ _).alloc (Nat.le_refl _) _
  simp only [tried, List.map_cons, List.map_nil] at sl b1
  have hsz := size_one w (.cells #[.int .u32 0, .int .u32 1, .int .u32 2, .int .u32 3, .int .u32 10, .int .u32 65535, .int .u32 65536, .int .u32 65537, .int .u32 2147483647, .int .u32 2147483648, .int .u32 4294967294, .int .u32 4294967295] 37)
  generalize hw1 : w.alloc _ = w1 at sl b1 hsz ⊢
  clear hw1
  have hdg : Dg 4294967296 [0, 1, 2, 3, 10, 65535, 65536, 65537, 2147483647, 2147483648, 4294967294, 4294967295] := tried_dg
  generalize [(0 : Int), 1, 2, 3, 10, 65535, 65536, 65537, 2147483647, 2147483648, 4294967294, 4294967295] = tr at sl hdg
  have slw := sl.more (B' := w1.heap.size) (by omega)
  have HT1 := Lib.hid (HT.out.below b1 h0)
  have hz1 : 0 < w1.heap.size := Nat.lt_of_lt_of_le h0 b1.size
  have B1 := Lib.hid b1
  clear sl hsz h0 HT b1
  generalize hLw : w.heap.size = L at slw ⊢
  clear hLw
  go_loopw [2] (fun iv wr => ∃ i : Nat, i ≤ 12 ∧ iv = .int .i64 i ∧ Below w1.heap.size w1 wr) (fun iv _ => 12 - (intOf iv).toNat)
  case atStart => exact ⟨0, by omega, rfl, Below.refl _ _⟩
  case round =>
    obtain ⟨i, hi, rfl, bo⟩ := hrel
    obtain ⟨wo, rfl⟩ : ∃ wo : World, wo = wr := ⟨_, rfl⟩
    by_cases hilt : i < 12
    · have hik : (i : Int) < 12 := by omega
      go_wp2_with fail
      go_loopw [3] (fun kv wr => ∃ k : Nat, k ≤ 12 ∧ kv = .int .i64 k ∧ Below w1.heap.size w1 wr) (fun kv _ => 12 - (intOf kv).toNat)
      case atStart => exact ⟨0, by omega, rfl, bo⟩
      case round =>
        obtain ⟨k, hk, rfl, bw⟩ := hrel
        by_cases hklt : k < 12
        · have slr := slw.below bw (Nat.le_refl _)
          obtain ⟨b', off', x, hA, hbB, ex, hcx⟩ := slr.at_ hilt
          injection hA with hA
          injection hA with q1 q2
          subst q1; subst q2
          obtain ⟨b', off', y, hA, _, ey, hcy⟩ := slr.at_ hklt
          injection hA with hA
          injection hA with q1 q2
          subst q1; subst q2
          rw [Nat.zero_add] at hcx hcy
          have hxx := hdg.get ex
          have hyy := hdg.get ey
          have hkk : (k : Int) < 12 := by omega
          go_wp2_with fail
          go_still_tail 8, (by kernel_rfl)
          change wpList _ _ _ _ _ wr.drew
          have bd : Below w1.heap.size w1 wr.drew := bw.drew
          have hcx' : wr.drew.cell? ⟨L, i, none⟩ = some (.int .u32 x) := hcx
          have hcy' : wr.drew.cell? ⟨L, k, none⟩ = some (.int .u32 y) := hcy
          clear hcx hcy bw slr bo
          generalize wr.drew = wd at bd hcx' hcy' ⊢
          have hLd : L < wd.heap.size := Nat.lt_of_lt_of_le hbB bd.size
          go_wp2_with fail
          have sA2 : Sl .u32 ((wd.alloc (.cells #[.int .u32 x, .int .u32 y] 37)).alloc (.cells #[.int .u32 y] 37)) (wd.heap.size + 2) (some ⟨wd.heap.size, 0, none⟩) 2 2 [x, y] := lit2n wd wd.heap.size rfl x y _ _
          have sB2 : Sl .u32 ((wd.alloc (.cells #[.int .u32 x, .int .u32 y] 37)).alloc (.cells #[.int .u32 y] 37)) (wd.heap.size + 2) (some ⟨wd.heap.size + 1, 0, none⟩) 1 1 [y] := (lit1 (wd.alloc _) (wd.heap.size + 1) (size_one _ _) y _).more (by omega)
          have b2 : Below w1.heap.size w1 ((wd.alloc (.cells #[.int .u32 x, .int .u32 y] 37)).alloc (.cells #[.int .u32 y] 37)) := (bd.alloc bd.size _).alloc (by rw [size_one]; have := bd.size; omega) _
          have hz2 : ((wd.alloc (.cells #[.int .u32 x, .int .u32 y] 37)).alloc (.cells #[.int .u32 y] 37)).heap.size = wd.heap.size + 2 := by rw [size_one, size_one]
          have hcx2 : ((wd.alloc (.cells #[.int .u32 x, .int .u32 y] 37)).alloc (.cells #[.int .u32 y] 37)).cell? ⟨L, i, none⟩ = some (.int .u32 x) := by
            rw [World.cell?_alloc_lt _ _ _ (by rw [size_one]; exact Nat.lt_succ_of_lt hLd), World.cell?_alloc_lt _ _ _ hLd]; exact hcx'
          have hcy2 : ((wd.alloc (.cells #[.int .u32 x, .int .u32 y] 37)).alloc (.cells #[.int .u32 y] 37)).cell? ⟨L, k, none⟩ = some (.int .u32 y) := by
            rw [World.cell?_alloc_lt _ _ _ (by rw [size_one]; exact Nat.lt_succ_of_lt hLd), World.cell?_alloc_lt _ _ _ hLd]; exact hcy'
          clear hcx' hcy' bd
          generalize ((wd.alloc (.cells #[.int .u32 x, .int .u32 y] 37)).alloc (.cells #[.int .u32 y] 37)) = w2 at sA2 sB2 b2 hz2 hcx2 hcy2 ⊢
          rw [← hz2] at sA2 sB2
          have HZ2 := Lib.hid hz2
          clear hz2 hLd
          go_still_tail 8, (by kernel_rfl)
          change wpList _ _ _ _ _ w2.drew
          have sA3 : Sl .u32 w2.drew w2.drew.heap.size (some ⟨wd.heap.size, 0, none⟩) 2 2 [x, y] := sA2
          have sB3 : Sl .u32 w2.drew w2.drew.heap.size (some ⟨wd.heap.size + 1, 0, none⟩) 1 1 [y] := sB2
          have b3 : Below w1.heap.size w1 w2.drew := b2.drew
          have hcx3 : w2.drew.cell? ⟨L, i, none⟩ = some (.int .u32 x) := hcx2
          have hcy3 : w2.drew.cell? ⟨L, k, none⟩ = some (.int .u32 y) := hcy2
          clear sA2 sB2 b2 hcx2 hcy2 HZ2
          generalize w2.drew = w3 at sA3 sB3 b3 hcx3 hcy3 ⊢
          generalize some (Addr.mk wd.heap.size 0 none) = AA at sA3 ⊢
          generalize some (Addr.mk (wd.heap.size + 1) 0 none) = AB at sB3 ⊢
          have hL3 : L < w3.heap.size := Nat.lt_of_lt_of_le hbB b3.size
          go_wp2_with fail
          have sA4 : Sl .u32 (w3.alloc (.cells #[.int .u32 y, .int .u32 x, .int .u32 0, .int .u32 0] 37)) (w3.alloc (.cells #[.int .u32 y, .int .u32 x, .int .u32 0, .int .u32 0] 37)).heap.size AA 2 2 [x, y] := (sA3.alloc (Nat.le_refl _) _).more (by rw [size_one]; omega)
          have sB4 : Sl .u32 (w3.alloc (.cells #[.int .u32 y, .int .u32 x, .int .u32 0, .int .u32 0] 37)) (w3.alloc (.cells #[.int .u32 y, .int .u32 x, .int .u32 0, .int .u32 0] 37)).heap.size AB 1 1 [y] := (sB3.alloc (Nat.le_refl _) _).more (by rw [size_one]; omega)
          have sC4 : Sl .u32 (w3.alloc (.cells #[.int .u32 y, .int .u32 x, .int .u32 0, .int .u32 0] 37)) (w3.alloc (.cells #[.int .u32 y, .int .u32 x, .int .u32 0, .int .u32 0] 37)).heap.size (some ⟨w3.heap.size, 0, none⟩) 4 4 [y, x, 0, 0] := (Sl.lit .u32 w3 [y, x, 0, 0] 37 4 rfl (by omega)).more (by rw [size_one]; omega)
          have b4 : Below w1.heap.size w1 (w3.alloc (.cells #[.int .u32 y, .int .u32 x, .int .u32 0, .int .u32 0] 37)) := b3.alloc b3.size _
          have hz4 : (w3.alloc (.cells #[.int .u32 y, .int .u32 x, .int .u32 0, .int .u32 0] 37)).heap.size = w3.heap.size + 1 := size_one _ _
          have hcx4 : (w3.alloc (.cells #[.int .u32 y, .int .u32 x, .int .u32 0, .int .u32 0] 37)).cell? ⟨L, i, none⟩ = some (.int .u32 x) := by rw [World.cell?_alloc_lt _ _ _ hL3]; exact hcx3
          have hcy4 : (w3.alloc (.cells #[.int .u32 y, .int .u32 x, .int .u32 0, .int .u32 0] 37)).cell? ⟨L, k, none⟩ = some (.int .u32 y) := by rw [World.cell?_alloc_lt _ _ _ hL3]; exact hcy3
          clear sA3 sB3 b3 hcx3 hcy3
          rw [← hz4]
          generalize (w3.alloc (.cells #[.int .u32 y, .int .u32 x, .int .u32 0, .int .u32 0] 37)) = w4 at sA4 sB4 sC4 b4 hz4 hcx4 hcy4 ⊢
          generalize some (Addr.mk w3.heap.size 0 none) = AC at sC4 ⊢
          have hL4 : L < w4.heap.size := Nat.lt_of_lt_of_le hbB b4.size
          clear hz4 hL3
          have dA : Dg 4294967296 [x, y] := dg2 hxx hyy
          have dB : Dg 4294967296 [y] := dg1 hyy
          have dC : Dg 4294967296 [y, x, 0, 0] := Dg.cons hyy (Dg.cons hxx (dg2 (by omega) (by omega)))
          have KX := Lib.hid (show ∀ W, Below w4.heap.size w4 W → W.cell? ⟨L, i, none⟩ = some (.int .u32 x) from fun W h => (h.cell (p := ⟨L, i, none⟩) hL4).trans hcx4)
          have KY := Lib.hid (show ∀ W, Below w4.heap.size w4 W → W.cell? ⟨L, k, none⟩ = some (.int .u32 y) from fun W h => (h.cell (p := ⟨L, k, none⟩) hL4).trans hcy4)
          have KT := Lib.hid (show ∀ W, Below w4.heap.size w4 W → HalfT W ∧ 0 < W.heap.size from fun W h =>
            ⟨HT1.out.below (b4.trans (h.mono b4.size)) hz1, Nat.lt_of_lt_of_le hz1 (b4.trans (h.mono b4.size)).size⟩)
          clear hcx4 hcy4
          have t5 := KT.out (w4.alloc (.cells #[.slice AA 2 2, .slice AB 1 1, .slice AC 4 4] 22)) ((Below.refl _ _).alloc (Nat.le_refl _) _)
          refine (LimbSums_any ((sA4.alloc (Nat.le_refl _) _).more (Nat.le_succ _)) ((sB4.alloc (Nat.le_refl _) _).more (Nat.le_succ _)) (SlS.three w4 (Nat.le_refl _) sA4 sB4 sC4 22) (by rw [size_one]; omega) dA dB (by simp [dA, dB, dC]) t5.1 t5.2).mono ?_
          rintro e w6 ⟨rfl, b⟩
          have b6 := below_a1 b
          clear b t5
          have t6 := KT.out w6 b6
          go_wp2_with fail
          refine (LimbSums_any (sB4.below b6 (Nat.le_refl _)) (sA4.below b6 (Nat.le_refl _)) SlS.none_ b6.size dB dA (by simp) t6.1 t6.2).mono ?_
          rintro e w7 ⟨rfl, b⟩
          have b7 := b6.trans (b.mono b6.size)
          clear b t6 b6
          have t7 := KT.out (w7.alloc (.cells #[.slice AC 4 4, .slice AC 4 4] 22)) (b7.alloc b7.size _)
          go_wp2_with fail
          refine (LimbSums_any (((sC4.below b7 (Nat.le_refl _)).alloc b7.size _).more (Nat.le_succ_of_le b7.size)) (((sA4.below b7 (Nat.le_refl _)).alloc b7.size _).more (Nat.le_succ_of_le b7.size)) (SlS.two w7 (Nat.le_refl _) ((sC4.below b7 (Nat.le_refl _)).more b7.size) ((sC4.below b7 (Nat.le_refl _)).more b7.size) 22) (by rw [size_one]; omega) dC dA (by simp [dC]) t7.1 t7.2).mono ?_
          rintro e w8 ⟨rfl, b⟩
          have b8 := b7.trans ((below_a1 b).mono b7.size)
          clear b t7 b7
          have t8 := KT.out w8 b8
          have y8 := KY.out w8 b8
          go_wp2_with fail
          refine (LimbSmall_any (sA4.below b8 (Nat.le_refl _)) b8.size dA hyy t8.1 t8.2).mono ?_
          rintro e w9 ⟨rfl, b⟩
          have b9 := b8.trans (b.mono b8.size)
          clear b t8 y8 b8
          have t9 := KT.out w9 b9
          have x9 := KX.out w9 b9
          go_wp2_with fail
          refine (LimbSmall_any (sC4.below b9 (Nat.le_refl _)) b9.size dC hxx t9.1 t9.2).mono ?_
          rintro e w10 ⟨rfl, b⟩
          have b10 := b9.trans (b.mono b9.size)
          clear b t9 x9 b9
          have t10 := KT.out w10 b10
          have y10 := KY.out w10 b10
          go_wp2_with fail
          refine (LimbBack_int (sA4.below b10 (Nat.le_refl _)) (sC4.below b10 (Nat.le_refl _)) b10.size dA dC hyy (by omega) t10.1 t10.2).mono ?_
          rintro e w11 ⟨rfl, b⟩
          have b11 := b4.trans ((b10.trans (b.mono b10.size)).mono b4.size)
          clear b t10 y10 b10 b4 KX KY KT
          go_wp2_with fail
          go_roundw
          case rel => exact ⟨k + 1, by omega, by go_num, b11⟩
          case measure => simp [intOf] <;> omega
        · clear bo
          go_wp2_with fail
          have sn : Sl .i64 (wr.alloc (.cells (shifts.map (Value.int .i64)).toArray 3)) (wr.heap.size + 1) (some ⟨wr.heap.size, 0, none⟩) 19 19 shifts := Sl.lit .i64 wr shifts _ 19 rfl (by omega)
          have bn : Below w1.heap.size w1 (wr.alloc (.cells (shifts.map (Value.int .i64)).toArray 3)) := bw.alloc bw.size _
          simp only [shifts, List.map_cons, List.map_nil] at sn bn
          have hsn := size_one wr (.cells #[.int .i64 (-100), .int .i64 (-65), .int .i64 (-64), .int .i64 (-63), .int .i64 (-33), .int .i64 (-32), .int .i64 (-31), .int .i64 (-1), .int .i64 0, .int .i64 1, .int .i64 31, .int .i64 32, .int .i64 33, .int .i64 63, .int .i64 64, .int .i64 65, .int .i64 65537, .int .i64 9223372036854775807, .int .i64 (-9223372036854775808)] 3)
          have hsh : ∀ x ∈ [(-100 : Int), -65, -64, -63, -33, -32, -31, -1, 0, 1, 31, 32, 33, 63, 64, 65, 65537, 9223372036854775807, -9223372036854775808], -9223372036854775808 ≤ x ∧ x ≤ 9223372036854775807 := shifts_ok
          generalize hwn : wr.alloc _ = wn at sn bn hsn ⊢
          clear hwn
          generalize [(-100 : Int), -65, -64, -63, -33, -32, -31, -1, 0, 1, 31, 32, 33, 63, 64, 65, 65537, 9223372036854775807, -9223372036854775808] = shl at sn hsh
          have snw := sn.more (B' := wn.heap.size) (by omega)
          clear sn hsn bw
          generalize wr.heap.size = LN at snw ⊢
          go_loopw [103] (fun jv wr => ∃ j : Nat, j ≤ 19 ∧ jv = .int .i64 j ∧ Below wn.heap.size wn wr) (fun jv _ => 19 - (intOf jv).toNat)
          case atStart => exact ⟨0, by omega, rfl, Below.refl _ _⟩
          case round =>
            obtain ⟨j, hj, rfl, bj⟩ := hrel
            by_cases hjlt : j < 19
            · have sj := snw.below bj (Nat.le_refl _)
              obtain ⟨b', off', n, hA, _, en, hcn⟩ := sj.at_ hjlt
              injection hA with hA
              injection hA with q1 q2
              subst q1; subst q2
              rw [Nat.zero_add] at hcn
              have hnn := hsh n (List.mem_of_getElem? en)
              have bz : Below w1.heap.size w1 wr := bn.trans (bj.mono bn.size)
              obtain ⟨b', off', x, hA, hbB, ex, hcx⟩ := (slw.below bz (Nat.le_refl _)).at_ hilt
              injection hA with hA
              injection hA with q1 q2
              subst q1; subst q2
              rw [Nat.zero_add] at hcx
              have hxx := hdg.get ex
              have hLr : L < wr.heap.size := Nat.lt_of_lt_of_le hbB bz.size
              have KT := Lib.hid (show ∀ W, Below wr.heap.size wr W → HalfT W ∧ 0 < W.heap.size from fun W h =>
                ⟨HT1.out.below (bz.trans (h.mono bz.size)) hz1, Nat.lt_of_lt_of_le hz1 (bz.trans (h.mono bz.size)).size⟩)
              have hjj : (j : Int) < 19 := by omega
              have hii : (i : Int) < 12 := by omega
              clear sj
              go_wp2_with fail
              have h0S : Below wr.heap.size wr wr ∧ wr.cell? ⟨L, i, none⟩ = some (.int .u32 x) := ⟨Below.refl _ _, hcx⟩
              go_region_held3 (fun W => Below wr.heap.size wr W ∧ W.cell? ⟨L, i, none⟩ = some (.int .u32 x))
                (first | assumption | exact hold_drew (by assumption) | exact hold_alloc hLr _ (by assumption))
                (first
                  | (go_at_call 5; go_must (refine (shift_arg hLr KT hnn (show Below wr.heap.size wr _ ∧ World.cell? _ ⟨L, i, none⟩ = some (.int .u32 x) by first | assumption | exact hold_drew (hold_alloc hLr _ h0S)) (by first | exact arg1 hxx | exact arg2 hxx | exact arg3 hxx)).mono ?_; rintro e w' ⟨rfl, hb⟩)))
              all_goals
                go_wp2_with fail
                go_roundw
                case rel => exact ⟨j + 1, by omega, by go_num, hold_out bj (by assumption)⟩
                case measure => simp [intOf] <;> omega
            · have bo2 := bn.trans (bj.mono bn.size)
              clear bj bn
              go_wp2_with fail
              go_roundw
              case rel => exact ⟨i + 1, by omega, by go_num, bo2⟩
              case measure => simp [intOf] <;> omega
    · have bz : Below w1.heap.size w1 wo := bo
      clear bo
      have BZ := Lib.hid bz
      go_wp2_with fail
      refine (Shift_one (m := 65536) (k := 2048) rfl rfl (lit1 wo _ rfl 1 _) (by rw [size_one]; exact Nat.le_refl _) (by omega)).mono ?_
      rintro e w2 ⟨b, off, n, c, hn, rfl, hc, b2⟩
      obtain rfl : n = 2049 := hn
      have b3 := bz.trans ((below_a1 b2).mono bz.size)
      clear b2 bz BZ
      have hT3 := HT1.out.below b3 hz1
      have hz3 := Nat.lt_of_lt_of_le hz1 b3.size
      go_wp2_with fail
      refine (LimbSums_any (B := 0) Sl.nil Sl.nil SlS.none_ (Nat.zero_le _) Dg.nil Dg.nil (by simp) hT3 hz3).mono ?_
      rintro e w3 ⟨rfl, b⟩
      have b4 := b3.trans (b.mono b3.size)
      clear b b3 hT3 hz3
      have hT4 := HT1.out.below b4 hz1
      have hz4 := Nat.lt_of_lt_of_le hz1 b4.size
      go_wp2_with fail
      refine (LimbSmall_any (B := 0) Sl.nil (Nat.zero_le _) Dg.nil (by omega) hT4 hz4).mono ?_
      rintro e w4 ⟨rfl, b⟩
      have b5 := b4.trans (b.mono b4.size)
      clear b b4 hT4 hz4
      have hT5 := HT1.out.below b5 hz1
      have hz5 := Nat.lt_of_lt_of_le hz1 b5.size
      go_wp2_with fail
      refine (LimbBack_int (B := 0) Sl.nil Sl.nil (Nat.zero_le _) Dg.nil Dg.nil (by omega) (by omega) hT5 hz5).mono ?_
      rintro e w5 ⟨rfl, b⟩
      have b6 := b5.trans (b.mono b5.size)
      clear b b5 hT5 hz5
      have hT6 := HT1.out.below b6 hz1
      have hz6 := Nat.lt_of_lt_of_le hz1 b6.size
      go_wp2_with fail
      refine (works_any _ hT6 hz6).mono ?_
      rintro e w6 ⟨rfl, b⟩
      have b7 := b6.trans (b.mono b6.size)
      clear b b6 hT6 hz6
      go_wp2_with fail
      go_ret
      exact ⟨rfl, B1.out.trans (b7.mono B1.out.size)⟩
end Go.Proofs.YtgdfjfmgcnbdaaaDoor
