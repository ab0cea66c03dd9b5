/- tallagelaw02: same, spoil, copied, works: what each call answers, and leaves. -/
import Derived.Test.YthicpakanhhipaaGreatDoorNatK
namespace Go.Proofs.YthicpakanhhipaaGreatDoor
open Go Go.RowKit

set_option maxHeartbeats 400000 in
theorem same_true {w : World} {B B2 : Nat} {A A2 : Option Addr} {n c n2 c2 : Nat} {xs : List Int} (hs : Sl .u32 w B A n c xs) (ht : Sl .u32 w B2 A2 n2 c2 xs) :
    Calls Tryz.prog 14 #[.slice A n c, .slice A2 n2 c2] w fun e w' => e = .returned (.bool true) ∧ ∃ q, w' = w.drewN q := by
  obtain rfl : n = n2 := hs.len.symm.trans ht.len
  have hm := hs.lenMax
  go_enter Tryz.func14, Tryz.ntmps14
  go_wp2
  go_loopw [5] (fun i wr => ∃ k q : Nat, k ≤ n ∧ i = .int .i64 k ∧ wr = w.drewN q) (fun i _ => n - (intOf i).toNat)
  case atStart => exact ⟨0, 0, Nat.zero_le _, rfl, rfl⟩
  case round =>
    obtain ⟨k, q, hk, rfl, rfl⟩ := hrel
    by_cases hlt : k < n
    · obtain ⟨b, off, x, rfl, _, ex, hc1⟩ := hs.at_ hlt
      obtain ⟨b2, off2, y, rfl, _, ey, hc2⟩ := ht.at_ hlt
      obtain rfl : x = y := by rw [ex] at ey; injection ey
      have hki : (k : Int) < (n : Int) := by omega
      go_wp2
      go_quiet (fail)
      go_wp2
      go_roundw
      case rel => exact ⟨k + 1, _, by omega, by go_num, by first | rfl | (simp only [World.drewN_drewN]; rfl)⟩
      case measure => simp [intOf] <;> omega
    · go_wp2
      go_ret
      exact ⟨rfl, q, rfl⟩

theorem same_b {w : World} {B B2 : Nat} {A A2 : Option Addr} {n c n2 c2 : Nat} {xs : List Int} (hs : Sl .u32 w B A n c xs) (ht : Sl .u32 w B2 A2 n2 c2 xs) :
    Calls Tryz.prog 14 #[.slice A n c, .slice A2 n2 c2] w fun e w' => e = .returned (.bool true) ∧ Below w.heap.size w w' := by
  refine (same_true hs ht).mono ?_
  rintro e w' ⟨rfl, q, rfl⟩
  exact ⟨rfl, Below.drewN' (Below.refl _ _) q⟩
theorem SlS.none_ {w : World} {B : Nat} : SlS w B none 0 0 [] := ⟨rfl, Nat.le_refl _, Nat.zero_le _, fun _ => rfl, fun h => absurd h (by omega)⟩
theorem SlS.three (w : World) {B : Nat} {A A2 A3 : Option Addr} {n c m c2 k c3 : Nat} {xs ys zs : List Int} (hB : B ≤ w.heap.size) (hs : Sl .u32 w B A n c xs) (ht : Sl .u32 w B A2 m c2 ys) (hz : Sl .u32 w B A3 k c3 zs) (t : TypeId) :
    SlS (w.alloc (.cells #[.slice A n c, .slice A2 m c2, .slice A3 k c3] t)) (w.heap.size + 1) (some ⟨w.heap.size, 0, none⟩) 3 3 [xs, ys, zs] := by
  refine ⟨rfl, Nat.le_refl _, by unfold maxLen; omega, fun h => (by cases h), fun _ => ⟨w.heap.size, 0, rfl, by omega, fun j us hz' => ?_⟩⟩
  have hj : j < 3 := (List.getElem?_eq_some_iff.1 hz').1
  rcases j with _ | _ | _ | j
  · simp at hz'; subst hz'
    exact ⟨A, n, c, by simp [World.cell?_alloc_new], (hs.alloc hB _).more (by omega)⟩
  · simp at hz'; subst hz'
    exact ⟨A2, m, c2, by simp [World.cell?_alloc_new], (ht.alloc hB _).more (by omega)⟩
  · simp at hz'; subst hz'
    exact ⟨A3, k, c3, by simp [World.cell?_alloc_new], (hz.alloc hB _).more (by omega)⟩
  · omega

theorem Sl.new3 (k : IntKind) (w : World) (x y z : Int) (t : TypeId) : Sl k (w.alloc (.cells #[.int k x, .int k y, .int k z] t)) (w.heap.size + 1) (some ⟨w.heap.size, 0, none⟩) 3 3 [x, y, z] := by
  refine ⟨rfl, Nat.le_refl _, by unfold maxLen; omega, fun h => (by cases h), fun _ => ⟨w.heap.size, 0, rfl, by omega, fun j v hv => ?_⟩⟩
  have hj : j < 3 := (List.getElem?_eq_some_iff.1 hv).1
  rcases j with _ | _ | _ | j
  · simp at hv; subst hv; simp [World.cell?_alloc_new]
  · simp at hv; subst hv; simp [World.cell?_alloc_new]
  · simp at hv; subst hv; simp [World.cell?_alloc_new]
  · omega
theorem dg3 {x y z : Int} (h : 0 ≤ x ∧ x < 4294967296) (h' : 0 ≤ y ∧ y < 4294967296) (h'' : 0 ≤ z ∧ z < 4294967296) : Dg 4294967296 [x, y, z] := Dg.cons h (dg2 h' h'')
theorem below_a3 {w w' : World} {o o2 o3 : Obj} (h : Below (((w.alloc o).alloc o2).alloc o3).heap.size (((w.alloc o).alloc o2).alloc o3) w') : Below w.heap.size w w' := below_a1 (below_a2 h)
theorem below_a4 {w w' : World} {o o2 o3 o4 : Obj} (h : Below ((((w.alloc o).alloc o2).alloc o3).alloc o4).heap.size ((((w.alloc o).alloc o2).alloc o3).alloc o4) w') : Below w.heap.size w w' := below_a1 (below_a3 h)

/-- A row of the call's own, and nothing else turned. -/
def NewL (w : World) (ys : List Int) (e : Ending) (w' : World) : Prop := ∃ A n c, e = .returned (.slice A n c) ∧ Own .u32 27 w' w.heap.size A n c ys ∧ Below w.heap.size w w'

theorem ex_mul (w : World) : Calls Tryz.prog 11 #[.slice (some ⟨w.heap.size, 0, none⟩) 1 1, .slice (some ⟨w.heap.size + 1, 0, none⟩) 1 1] ((w.alloc (.cells #[.int .u32 4294967295] 27)).alloc (.cells #[.int .u32 4294967295] 27)) (NewL w [1, 4294967294]) := by
  refine (Mul_any (lit1n w w.heap.size rfl 4294967295 27 _) (lit1 (w.alloc _) (w.heap.size + 1) (size_one _ _) 4294967295 27) (by rw [size_one, size_one]; omega) (dg1 (by omega)) (dg1 (by omega)) (by omega) (by omega)).mono ?_
  rintro e w1 ⟨ys, hr, A, n, c, rfl, ho, hb⟩
  obtain rfl := hr.uniq (by decide) (ys := [1, 4294967294]) (row2 (by decide) (by omega) (by omega))
  exact ⟨A, n, c, rfl, ho.lower (by rw [size_one, size_one]; omega), below_a2 hb⟩
theorem ex_div (w : World) (hE : Env w) : Calls Tryz.prog 17 #[.slice (some ⟨w.heap.size, 0, none⟩) 3 3, .slice (some ⟨w.heap.size + 1, 0, none⟩) 1 1] ((w.alloc (.cells #[.int .u32 0, .int .u32 0, .int .u32 1] 27)).alloc (.cells #[.int .u32 3] 27)) fun e w' =>
    ∃ A n c A2 n2 c2, e = .returned (.tuple #[.slice A n c, .slice A2 n2 c2, .int .i64 0]) ∧ Own .u32 27 w' w.heap.size A n c [1431655765, 1431655765] ∧ Own .u32 27 w' w.heap.size A2 n2 c2 [1] ∧ Below w.heap.size w w' := by
  have hb0 : Below w.heap.size w ((w.alloc (.cells #[.int .u32 0, .int .u32 0, .int .u32 1] 27)).alloc (.cells #[.int .u32 3] 27)) := ((Below.refl _ _).alloc (Nat.le_refl _) _).alloc (by rw [size_one]; omega) _
  have hE1 := hE.below hb0
  refine (DivMod_any (((Sl.new3 .u32 w 0 0 1 27).alloc (by rw [size_one]; omega) _).more (B' := w.heap.size + 2) (by omega)) (lit1 (w.alloc _) (w.heap.size + 1) (size_one _ _) 3 27) (by rw [size_one, size_one]; omega) hE1.half hE1.hz (dg3 (by omega) (by omega) (by omega)) (dg1 (by omega)) (by omega) (by omega)).mono ?_
  rintro e w1 h
  rcases h with ⟨h, _⟩ | ⟨_, qs, rs, A, n, c, A2, n2, c2, rfl, hq, hr, ho, ho2, hb⟩
  · exact absurd h (by decide)
  · obtain rfl := hq.uniq (by decide) (ys := [1431655765, 1431655765]) (row2 (by decide) (by omega) (by omega))
    obtain rfl := hr.uniq (by decide) (ys := [1]) (row1 (by decide) (by omega))
    exact ⟨A, n, c, A2, n2, c2, rfl, ho.lower (by rw [size_one, size_one]; omega), ho2.lower (by rw [size_one, size_one]; omega), below_a2 hb⟩
theorem ex_gcd (w : World) (hE : Env w) : Calls Tryz.prog 18 #[.slice (some ⟨w.heap.size + 3, 0, none⟩) 3 3]
    ((((w.alloc (.cells #[.int .u32 12] 27)).alloc (.cells #[.int .u32 18] 27)).alloc (.cells #[.int .u32 30] 27)).alloc (.cells #[.slice (some ⟨w.heap.size, 0, none⟩) 1 1, .slice (some ⟨w.heap.size + 1, 0, none⟩) 1 1, .slice (some ⟨w.heap.size + 2, 0, none⟩) 1 1] 22)) (NewL w [6]) := by
  have hz : (((w.alloc (.cells #[.int .u32 12] 27)).alloc (.cells #[.int .u32 18] 27)).alloc (.cells #[.int .u32 30] 27)).heap.size = w.heap.size + 3 := by rw [size_one, size_one, size_one]
  have s1 : Sl .u32 (((w.alloc (.cells #[.int .u32 12] 27)).alloc (.cells #[.int .u32 18] 27)).alloc (.cells #[.int .u32 30] 27)) (w.heap.size + 3) (some ⟨w.heap.size, 0, none⟩) 1 1 [12] :=
    ((lit1n w w.heap.size rfl 12 27 _).alloc (by rw [size_one, size_one]; omega) _).more (by omega)
  have s2 : Sl .u32 (((w.alloc (.cells #[.int .u32 12] 27)).alloc (.cells #[.int .u32 18] 27)).alloc (.cells #[.int .u32 30] 27)) (w.heap.size + 3) (some ⟨w.heap.size + 1, 0, none⟩) 1 1 [18] :=
    ((lit1 (w.alloc _) (w.heap.size + 1) (size_one _ _) 18 27).alloc (by rw [size_one, size_one]; omega) _).more (by omega)
  have s3 : Sl .u32 (((w.alloc (.cells #[.int .u32 12] 27)).alloc (.cells #[.int .u32 18] 27)).alloc (.cells #[.int .u32 30] 27)) (w.heap.size + 3) (some ⟨w.heap.size + 2, 0, none⟩) 1 1 [30] :=
    lit1 ((w.alloc _).alloc _) (w.heap.size + 2) (by rw [size_one, size_one]) 30 27
  have hb0 : Below w.heap.size w (((w.alloc (.cells #[.int .u32 12] 27)).alloc (.cells #[.int .u32 18] 27)).alloc (.cells #[.int .u32 30] 27)) := (((Below.refl _ _).alloc (Nat.le_refl _) _).alloc (by rw [size_one]; omega) _).alloc (by rw [size_one, size_one]; omega) _
  generalize ((w.alloc (.cells #[.int .u32 12] 27)).alloc (.cells #[.int .u32 18] 27)).alloc (.cells #[.int .u32 30] 27) = w3 at *
  have hE1 := hE.below (hb0.alloc hb0.size (.cells #[.slice (some ⟨w.heap.size, 0, none⟩) 1 1, .slice (some ⟨w.heap.size + 1, 0, none⟩) 1 1, .slice (some ⟨w.heap.size + 2, 0, none⟩) 1 1] 22))
  have h3 := SlS.three w3 (Nat.le_of_eq hz.symm) s1 s2 s3 22
  rw [hz] at h3
  refine (Gcd_any (M := 1) h3 (by rw [size_one, hz]; omega) hE1.half hE1.hz (by simp [dg1]) (by omega)).mono ?_
  rintro e w1 ⟨ys, hr, A, n, c, rfl, ho, hb⟩
  obtain rfl := hr.uniq (by decide) (ys := [6]) (row1 (by decide) (by omega))
  exact ⟨A, n, c, rfl, ho.lower (by rw [size_one]; omega), hb0.trans (((Below.refl _ _).alloc (Nat.le_refl _) _).trans (hb.mono (by rw [size_one]; omega)) |>.mono hb0.size)⟩
theorem ex_pow (w : World) : Calls Tryz.prog 22 #[.int .u32 10, .int .i64 10] w fun e w' => ∃ A n c, e = .returned (.tuple #[.slice A n c, .int .i64 0]) ∧ Own .u32 27 w' w.heap.size A n c [1410065408, 2] ∧ Below w.heap.size w w' := by
  refine (Pow_any (b := 10) (n := 10) (by omega) (by omega)).mono ?_
  rintro e w1 ⟨ys, A, n, c, hr, rfl, ho, hb⟩
  obtain rfl := hr.uniq (by decide) (ys := [1410065408, 2]) (row2 (by decide) (by omega) (by omega))
  exact ⟨A, n, c, rfl, ho, hb⟩
theorem ex_parse (w : World) : Calls Tryz.prog 20 #[.string ⟨#[49, 48, 48, 48, 48, 48, 48, 48, 48, 48, 48]⟩] w fun e w' => ∃ A n c, e = .returned (.tuple #[.slice A n c, .int .i64 0]) ∧ Own .u32 27 w' w.heap.size A n c [1410065408, 2] ∧ Below w.heap.size w w' := by
  have hw : Written ⟨#[49, 48, 48, 48, 48, 48, 48, 48, 48, 48, 48]⟩ := by
    refine ⟨by decide, fun _ => (show ((49 : Nat) : Int) ≠ 48 by decide), ?_⟩
    unfold isDig
    decide
  refine (Parse_any _ (by decide)).mono ?_
  rintro e w1 h
  rcases h with ⟨h, _⟩ | ⟨_, h, _⟩ | ⟨_, _, ys, A, n, c, hr, rfl, ho, hb⟩
  · exact absurd hw h
  · exact absurd h (by decide)
  · obtain rfl := hr.uniq (by decide) (ys := [1410065408, 2]) (row2 (by decide) (by omega) (by omega))
    exact ⟨A, n, c, rfl, ho, hb⟩
theorem ex_parse01 (w : World) : Calls Tryz.prog 20 #[.string ⟨#[48, 49]⟩] w fun e w' => e = .returned (.tuple #[.slice none 0 0, .int .i64 60]) ∧ Below w.heap.size w w' := by
  have hw : ¬ Written ⟨#[48, 49]⟩ := fun h => h.2.1 (by decide) (by decide)
  refine (Parse_any _ (by decide)).mono ?_
  rintro e w1 h
  rcases h with ⟨_, h⟩ | ⟨h, _⟩ | ⟨h, _⟩
  · exact h
  · exact absurd h hw
  · exact absurd h hw
theorem ex_parse0 (w : World) : Calls Tryz.prog 20 #[.string ⟨#[]⟩] w fun e w' => e = .returned (.tuple #[.slice none 0 0, .int .i64 60]) ∧ Below w.heap.size w w' := by
  have hw : ¬ Written ⟨#[]⟩ := fun h => absurd h.1 (by decide)
  refine (Parse_any _ (by decide)).mono ?_
  rintro e w1 h
  rcases h with ⟨_, h⟩ | ⟨h, _⟩ | ⟨h, _⟩
  · exact h
  · exact absurd h hw
  · exact absurd h hw
theorem putL_ex : putL 4294967296 = [52, 50, 57, 52, 57, 54, 55, 50, 57, 54] := by
  unfold putL
  rw [if_neg (by decide), decL_pos (by decide), decL_pos (by decide), decL_pos (by decide), decL_pos (by decide), decL_pos (by decide), decL_pos (by decide), decL_pos (by decide), decL_pos (by decide), decL_pos (by decide), decL_pos (by decide)]
  rw [show 4294967296 / 10 / 10 / 10 / 10 / 10 / 10 / 10 / 10 / 10 / 10 = 0 from rfl, decL_zero]
  rfl
theorem ex_put (w : World) (hE : Env w) : Calls Tryz.prog 24 #[.slice (some ⟨w.heap.size, 0, none⟩) 2 2] (w.alloc (.cells #[.int .u32 0, .int .u32 1] 27)) fun e w' => e = .returned (.string ⟨#[52, 50, 57, 52, 57, 54, 55, 50, 57, 54]⟩) ∧ Below w.heap.size w w' := by
  have hE1 := hE.below ((Below.refl _ _).alloc (Nat.le_refl _) (.cells #[.int .u32 0, .int .u32 1] 27))
  refine (Put_any (lit2 w w.heap.size rfl 0 1 27) (by rw [size_one]; omega) (dg2 (by omega) (by omega)) (by omega) (by decide +kernel) hE1).mono ?_
  rintro e w1 ⟨s, rfl, hs, hb⟩
  have e1 : (val 4294967296 [0, 1]).toNat = 4294967296 := by decide
  rw [e1, putL_ex] at hs
  have hs' : s = ⟨#[52, 50, 57, 52, 57, 54, 55, 50, 57, 54]⟩ := ByteArray.ext (Array.toList_inj.1 hs)
  subst hs'
  exact ⟨rfl, below_a1 hb⟩

set_option maxHeartbeats 4000000 in
theorem works_any (w : World) (hE : Env w) : Calls Tryz.prog 7 #[] w fun e w' => e = .returned (.bool true) ∧ Below w.heap.size w w' := by
  have HE := Lib.hid hE
  clear hE
  go_enter Tryz.func7, Tryz.ntmps7
  go_wp2_with fail
  refine (ex_mul w).mono ?_
  rintro e w1 ⟨A1, n1, c1, rfl, o1, b1⟩
  have E1 := Lib.hid (HE.out.below b1)
  go_wp2_with fail
  refine (ex_div w1 E1.out).mono ?_
  rintro e w2 ⟨A2, n2, c2, A3, n3, c3, rfl, o2, o3, b2⟩
  have E2 := Lib.hid (E1.out.below b2)
  go_wp2_with fail
  refine (ex_gcd w2 E2.out).mono ?_
  rintro e w3 ⟨A4, n4, c4, rfl, o4, b3⟩
  have E3 := Lib.hid (E2.out.below b3)
  go_wp2_with fail
  refine (ex_pow w3).mono ?_
  rintro e w4 ⟨A5, n5, c5, rfl, o5, b4⟩
  go_wp2_with fail
  refine (ex_parse w4).mono ?_
  rintro e w5 ⟨A6, n6, c6, rfl, o6, b5⟩
  go_wp2_with fail
  refine (ex_parse01 w5).mono ?_
  rintro e w6 ⟨rfl, b6⟩
  go_wp2_with fail
  refine (ex_parse0 w6).mono ?_
  rintro e w7 ⟨rfl, b7⟩
  have b67 := b6.trans (b7.mono b6.size)
  have b57 := b5.trans (b67.mono b5.size)
  have b47 := b4.trans (b57.mono b4.size)
  have b37 := b3.trans (b47.mono b3.size)
  have b27 := b2.trans (b37.mono b2.size)
  have b17 := b1.trans (b27.mono b1.size)
  have E7 := Lib.hid (HE.out.below b17)
  have s1 := (o1.below b27).sl
  have s2 := (o2.below b37).sl
  have s3 := (o3.below b37).sl
  have s4 := (o4.below b47).sl
  have s5 := (o5.below b57).sl
  have s6 := (o6.below b67).sl
  clear E1 E2 E3 b1 b2 b3 b4 b5 b6 b7 b67 b57 b47 b37 b27 o1 o2 o3 o4 o5 o6 HE
  go_wp2_with fail
  refine (same_b (s1.alloc (Nat.le_refl _) _) (lit2 w7 w7.heap.size rfl 1 4294967294 27)).mono ?_
  rintro e w8 ⟨rfl, hb⟩
  have b8 := below_a1 hb
  clear hb
  go_wp2_with fail
  refine (same_b ((s2.below b8 (Nat.le_refl _)).alloc b8.size _) (lit2 w8 w8.heap.size rfl 1431655765 1431655765 27)).mono ?_
  rintro e w9 ⟨rfl, hb⟩
  have b9 := b8.trans ((below_a1 hb).mono b8.size)
  clear hb
  go_wp2_with fail
  refine (same_b ((s3.below b9 (Nat.le_refl _)).alloc b9.size _) (lit1 w9 w9.heap.size rfl 1 27)).mono ?_
  rintro e w10 ⟨rfl, hb⟩
  have b10 := b9.trans ((below_a1 hb).mono b9.size)
  clear hb
  go_wp2_with fail
  refine (same_b ((s4.below b10 (Nat.le_refl _)).alloc b10.size _) (lit1 w10 w10.heap.size rfl 6 27)).mono ?_
  rintro e w11 ⟨rfl, hb⟩
  have b11 := b10.trans ((below_a1 hb).mono b10.size)
  clear hb
  go_wp2_with fail
  refine (same_b ((s5.below b11 (Nat.le_refl _)).alloc b11.size _) (lit2 w11 w11.heap.size rfl 1410065408 2 27)).mono ?_
  rintro e w12 ⟨rfl, hb⟩
  have b12 := b11.trans ((below_a1 hb).mono b11.size)
  clear hb
  go_wp2_with fail
  refine (same_b (s6.below b12 (Nat.le_refl _)) (s5.below b12 (Nat.le_refl _))).mono ?_
  rintro e w13 ⟨rfl, hb⟩
  have b13 := b12.trans (hb.mono b12.size)
  clear hb
  have E13 := Lib.hid (E7.out.below b13)
  go_wp2_with fail
  refine (ex_put w13 E13.out).mono ?_
  rintro e w14 ⟨rfl, hb⟩
  have B14 := Lib.hid (b17.trans ((b13.trans (hb.mono b13.size)).mono b17.size))
  clear hb b13 b12 b11 b10 b9 b8 b17 s1 s2 s3 s4 s5 s6
  go_wp2_with fail
  go_ret
  exact ⟨rfl, B14.out⟩
end Go.Proofs.YthicpakanhhipaaGreatDoor
