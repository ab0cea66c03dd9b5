/- Whole numbers as they are reckoned with: what a number is, how long at most; each function of package big in these words; and the same as steps of regions. -/
import Derived.Test.YtbjooeapjhaapaaGreatDoorBigL
import Derived.Test.YtbjooeapjhaapaaGreatDoorBigF
import Derived.Test.YtbjooeapjhaapaaGreatDoorTypedF
import Derived.Test.YtbjooeapjhaapaaGreatDoorBStepC
import Derived.Test.YtbjooeapjhaapaaGreatDoorBLawA
namespace Go.Proofs.YtbjooeapjhaapaaGreatDoor
open Go Go.RowKit

/-- A right number of value N, in at most L limbs, readable. -/
def IsN (w : World) (N : Int) (L : Nat) (s : Bool) (A : Option Addr) (n c : Nat) : Prop := ∃ ys, Whole N s ys ∧ Sl .u32 w w.heap.size A n c ys ∧ n ≤ L
theorem IsN.up {w w' : World} {N : Int} {L : Nat} {s : Bool} {A : Option Addr} {n c : Nat} (h : IsN w N L s A n c) (hb : Below w.heap.size w w') : IsN w' N L s A n c := by
  obtain ⟨ys, h1, h2, h3⟩ := h
  exact ⟨ys, h1, (h2.below hb (Nat.le_refl _)).more hb.size, h3⟩
theorem IsN.lt {w : World} {N : Int} {L : Nat} {s : Bool} {A : Option Addr} {n c : Nat} (h : IsN w N L s A n c) : (N.natAbs : Int) < 4294967296 ^ L := by
  obtain ⟨ys, h1, h2, h3⟩ := h
  have := val_lt (β := 4294967296) (by decide) h1.row.dg
  rw [h1.row.val, h2.len] at this
  exact Int.lt_of_lt_of_le this (pow_mono (by decide) h3)
/-- A number that is answered. -/
def RN (w : World) (N : Int) (L : Nat) (e : Ending) (w' : World) : Prop := ∃ s A n c, e = .returned (.agg #[.bool s, .slice A n c]) ∧ IsN w' N L s A n c ∧ Below w.heap.size w w'
theorem NewI.rn {w w' : World} {N : Int} {e : Ending} (h : NewI w N e w') {L : Nat} (hN : (N.natAbs : Int) < 4294967296 ^ L) : RN w N L e w' := by
  obtain ⟨s, ys, A, n, c, hW, rfl, ho, hb⟩ := h
  exact ⟨s, A, n, c, rfl, ⟨ys, hW, ho.sl, by have := hW.len hN; have := ho.len; omega⟩, hb⟩
theorem of_lt {k : Int} (hk : -9223372036854775808 ≤ k ∧ k ≤ 9223372036854775807) : (k.natAbs : Int) < 4294967296 ^ 2 := by
  have e : (4294967296 : Int) ^ 2 = 18446744073709551616 := by decide
  omega
theorem abs_lt' {N : Int} {L : Nat} (h : (N.natAbs : Int) < 4294967296 ^ L) : (((N.natAbs : Int)).natAbs : Int) < 4294967296 ^ L := by simpa using h
theorem sub_lt {N M : Int} {n m : Nat} (h1 : (N.natAbs : Int) < 4294967296 ^ n) (h2 : (M.natAbs : Int) < 4294967296 ^ m) : ((N - M).natAbs : Int) < 4294967296 ^ (max n m + 1) := by
  have := add_lt h1 (neg_lt h2)
  rwa [← Int.sub_eq_add_neg] at this
theorem gcd_lt {N M : Int} {n m : Nat} (h1 : (N.natAbs : Int) < 4294967296 ^ n) (h2 : (M.natAbs : Int) < 4294967296 ^ m) : ((gcdI (N.natAbs : Int) (M.natAbs : Int)).natAbs : Int) < 4294967296 ^ (n + m) := by
  have h3 : (4294967296 : Int) ^ n ≤ 4294967296 ^ (n + m) := pow_mono (by decide) (by omega)
  have h4 : (4294967296 : Int) ^ m ≤ 4294967296 ^ (n + m) := pow_mono (by decide) (by omega)
  have e : (gcdI (N.natAbs : Int) (M.natAbs : Int)).natAbs = Nat.gcd N.natAbs M.natAbs := by unfold gcdI; simp
  rw [e]
  rcases Nat.eq_zero_or_pos N.natAbs with h0 | h0
  · rw [h0, Nat.gcd_zero_left]; omega
  · have := Nat.gcd_le_left M.natAbs h0; omega
theorem sgv_self (N : Int) : sgv (decide (N < 0)) (N.natAbs : Int) = N := by
  by_cases h : N < 0
  · rw [decide_eq_true h, sgv_true]; omega
  · rw [decide_eq_false h, sgv_false]; omega
theorem sgv_natAbs (s : Bool) (a : Int) : (sgv s a).natAbs = a.natAbs := by cases s <;> simp [sgv]
theorem floor_size (N : Int) {M : Int} (hM : M ≠ 0) : (N.fdiv M).natAbs ≤ N.natAbs + 1 ∧ (N.fmod M).natAbs < M.natAbs := by
  have hU : 0 < (M.natAbs : Int) := by omega
  obtain ⟨k1, k2⟩ := floor_parts (s := decide (N < 0)) (t := decide (M < 0)) (V := (N.natAbs : Int)) hU
  rw [sgv_self, sgv_self] at k1 k2
  have h1 := Int.emod_nonneg (N.natAbs : Int) (show (M.natAbs : Int) ≠ 0 by omega)
  have h2 := Int.emod_lt_of_pos (N.natAbs : Int) hU
  have h3 := Int.ediv_nonneg (show (0 : Int) ≤ (N.natAbs : Int) by omega) (Int.le_of_lt hU)
  have h4 := Int.ediv_le_self (a := (N.natAbs : Int)) (M.natAbs : Int) (by omega)
  generalize (N.natAbs : Int) % (M.natAbs : Int) = r at *
  generalize (N.natAbs : Int) / (M.natAbs : Int) = q at *
  by_cases hd : ((decide (N < 0)) != (decide (M < 0))) = true ∧ r ≠ 0
  · obtain ⟨e1, e2⟩ := k2 hd
    rw [e1, e2, sgv_natAbs, sgv_natAbs]
    have := hd.2
    omega
  · have hor : ((decide (N < 0)) != (decide (M < 0))) = false ∨ r = 0 := by
      by_cases h0 : r = 0
      · exact .inr h0
      · refine .inl ?_
        cases hb : ((decide (N < 0)) != (decide (M < 0))) with
        | false => rfl
        | true => exact absurd ⟨hb, h0⟩ hd
    obtain ⟨e1, e2⟩ := k1 hor
    rw [e1, e2, sgv_natAbs, sgv_natAbs]
    omega
theorem fdiv_lt {N M : Int} {n : Nat} (h1 : (N.natAbs : Int) < 4294967296 ^ n) (hM : M ≠ 0) : ((N.fdiv M).natAbs : Int) < 4294967296 ^ (n + 1) := by
  have h2 := (floor_size N hM).1
  have p := pow_pos' (show (0 : Int) < 4294967296 by decide) n
  rw [Int.pow_succ]
  omega
theorem fmod_lt {N M : Int} {n : Nat} (h1 : (M.natAbs : Int) < 4294967296 ^ n) (hM : M ≠ 0) : ((N.fmod M).natAbs : Int) < 4294967296 ^ n := by
  have h2 := (floor_size N hM).2
  omega
section
variable {w : World} {N M : Int} {L K : Nat} {s t : Bool} {A A2 : Option Addr} {n c m c2 : Nat}
theorem ofN {k : Int} (hk : -9223372036854775808 ≤ k ∧ k ≤ 9223372036854775807) : Calls Tryz.prog 36 #[.int .i64 k] w (RN w k 2) := (bof_any hk).mono fun _ _ h => h.rn (of_lt hk)
theorem addN (h0 : IsN w N L s A n c) (h1 : IsN w M K t A2 m c2) (hL : L ≤ 1000000) (hK : K ≤ 1000000) : Calls Tryz.prog 11 #[.agg #[.bool s, .slice A n c], .agg #[.bool t, .slice A2 m c2]] w (RN w (N + M) (max L K + 1)) := by
  have l0 := h0.lt
  have l1 := h1.lt
  obtain ⟨xs, w0, s0, n0⟩ := h0
  obtain ⟨ys, w1, s1, n1⟩ := h1
  have := badd_any (s := s) (t := t) s0 s1 (Nat.le_refl _) w0.row.dg w1.row.dg (by omega) (by omega)
  rw [w0.val, w1.val] at this
  exact this.mono fun _ _ h => h.rn (add_lt l0 l1)
theorem subN (h0 : IsN w N L s A n c) (h1 : IsN w M K t A2 m c2) (hL : L ≤ 1000000) (hK : K ≤ 1000000) : Calls Tryz.prog 12 #[.agg #[.bool s, .slice A n c], .agg #[.bool t, .slice A2 m c2]] w (RN w (N - M) (max L K + 1)) := by
  have l0 := h0.lt
  have l1 := h1.lt
  obtain ⟨xs, w0, s0, n0⟩ := h0
  obtain ⟨ys, w1, s1, n1⟩ := h1
  have := bsub_any (s := s) (t := t) s0 s1 (Nat.le_refl _) w0.row.dg w1.row.dg (by omega) (by omega)
  rw [w0.val, w1.val] at this
  exact this.mono fun _ _ h => h.rn (sub_lt l0 l1)
theorem mulN (h0 : IsN w N L s A n c) (h1 : IsN w M K t A2 m c2) (hL : L ≤ 1000000) (hK : K ≤ 1000000) : Calls Tryz.prog 13 #[.agg #[.bool s, .slice A n c], .agg #[.bool t, .slice A2 m c2]] w (RN w (N * M) (L + K)) := by
  have l0 := h0.lt
  have l1 := h1.lt
  obtain ⟨xs, w0, s0, n0⟩ := h0
  obtain ⟨ys, w1, s1, n1⟩ := h1
  have := bmul_any (s := s) (t := t) s0 s1 (Nat.le_refl _) w0.row.dg w1.row.dg (by omega) (by omega)
  rw [w0.val, w1.val] at this
  exact this.mono fun _ _ h => h.rn (mul_lt l0 l1)
theorem gcdN (h0 : IsN w N L s A n c) (h1 : IsN w M K t A2 m c2) (hE : Env w) (hL : L ≤ 2000) (hK : K ≤ 2000) : Calls Tryz.prog 16 #[.agg #[.bool s, .slice A n c], .agg #[.bool t, .slice A2 m c2]] w (RN w (gcdI (N.natAbs : Int) (M.natAbs : Int)) (L + K)) := by
  have l0 := h0.lt
  have l1 := h1.lt
  obtain ⟨xs, w0, s0, n0⟩ := h0
  obtain ⟨ys, w1, s1, n1⟩ := h1
  have := bgcd_any (s := s) (t := t) s0 s1 (Nat.le_refl _) hE.half hE.hz w0.row.dg w1.row.dg (by omega) (by omega)
  rw [w0.val, w1.val] at this
  exact this.mono fun _ _ h => h.rn (gcd_lt l0 l1)
theorem negN (h0 : IsN w N L s A n c) (hL : L ≤ 1000000) : Calls Tryz.prog 14 #[.agg #[.bool s, .slice A n c]] w (RN w (-N) (L)) := by
  have l0 := h0.lt
  obtain ⟨xs, w0, s0, n0⟩ := h0
  have := bneg_any (s := s) s0 (Nat.le_refl _) w0.row.dg (by omega)
  rw [w0.val] at this
  exact this.mono fun _ _ h => h.rn (neg_lt l0)
theorem absN (h0 : IsN w N L s A n c) (hL : L ≤ 1000000) : Calls Tryz.prog 15 #[.agg #[.bool s, .slice A n c]] w (RN w ((N.natAbs : Int)) (L)) := by
  have l0 := h0.lt
  obtain ⟨xs, w0, s0, n0⟩ := h0
  have := babs_any (s := s) s0 (Nat.le_refl _) w0.row.dg (by omega)
  rw [w0.val] at this
  exact this.mono fun _ _ h => h.rn (abs_lt' l0)
theorem cmpN (h0 : IsN w N L s A n c) (h1 : IsN w M K t A2 m c2) (hL : L ≤ 1000000) (hK : K ≤ 1000000) : Calls Tryz.prog 28 #[.agg #[.bool s, .slice A n c], .agg #[.bool t, .slice A2 m c2]] w (CmpN w N M) := by
  obtain ⟨xs, w0, s0, n0⟩ := h0
  obtain ⟨ys, w1, s1, n1⟩ := h1
  have := bcmp_any (s := s) (t := t) s0 s1 (Nat.le_refl _) w0.row.dg w1.row.dg (by omega) (by omega)
  rwa [w0.val, w1.val] at this
theorem signN (h0 : IsN w N L s A n c) (hL : L ≤ 1000000) : Calls Tryz.prog 30 #[.agg #[.bool s, .slice A n c]] w (CmpN w N 0) := by
  obtain ⟨xs, w0, s0, n0⟩ := h0
  have := bsign_any (s := s) s0 (Nat.le_refl _) w0.row.dg (by omega)
  rwa [w0.val] at this
theorem putN (h0 : IsN w N L s A n c) (hE : Env w) (hL : L ≤ 400) : Calls Tryz.prog 37 #[.agg #[.bool s, .slice A n c]] w (TextI w (putI N)) := by
  have l0 := h0.lt
  obtain ⟨xs, w0, s0, n0⟩ := h0
  have hb : (4294967296 : Int) ^ 400 < 1000000000 ^ 456 := by decide +kernel
  have hb2 : (4294967296 : Int) ^ L ≤ 4294967296 ^ 400 := pow_mono (by decide) hL
  have := bput_any (s := s) s0 (Nat.le_refl _) w0.row.dg (by omega) (by rw [w0.val]; omega) hE
  rwa [w0.val] at this
theorem int64N (h0 : IsN w N L s A n c) (hE : Env w) (hL : L ≤ 1000000) : Calls Tryz.prog 34 #[.agg #[.bool s, .slice A n c]] w (I64R w N) := by
  obtain ⟨xs, w0, s0, n0⟩ := h0
  have := bint64_any (s := s) s0 (Nat.le_refl _) hE.half hE.hz w0.row.dg (by omega)
  rwa [w0.val] at this
/-- Floor division that is answered. -/
def RDiv (w : World) (N M : Int) (L K : Nat) (e : Ending) (w' : World) : Prop :=
  ∃ s1 A1 n1 c1 s2 A2 n2 c2, e = .returned (.tuple #[.agg #[.bool s1, .slice A1 n1 c1], .agg #[.bool s2, .slice A2 n2 c2], .int .i64 0]) ∧ IsN w' (N.fdiv M) (L + 1) s1 A1 n1 c1 ∧ IsN w' (N.fmod M) K s2 A2 n2 c2 ∧ Below w.heap.size w w'
theorem divN (h0 : IsN w N L s A n c) (h1 : IsN w M K t A2 m c2) (hE : Env w) (hM : M ≠ 0) (hL : L ≤ 1000000) (hK : K ≤ 1000000) : Calls Tryz.prog 23 #[.agg #[.bool s, .slice A n c], .agg #[.bool t, .slice A2 m c2]] w (RDiv w N M L K) := by
  have l0 := fdiv_lt h0.lt hM
  have l1 := fmod_lt (N := N) h1.lt hM
  obtain ⟨xs, w0, s0, n0⟩ := h0
  obtain ⟨ys, w1, s1, n1⟩ := h1
  have := bdivmod_any (s := s) (t := t) s0 s1 (Nat.le_refl _) hE.half hE.hz w0.row.dg w1.row.dg (by omega) (by omega)
  rw [w0.val, w1.val] at this
  refine this.mono ?_
  rintro e w' (⟨hz, _⟩ | ⟨_, s1, qs, s2, rs, A1, n1, c1, A2, n2, c2, rfl, hq, hr, o1, o2, _, hb⟩)
  · exact absurd hz hM
  · exact ⟨s1, A1, n1, c1, s2, A2, n2, c2, rfl, ⟨qs, hq, o1.sl, by have := hq.len l0; have := o1.len; omega⟩, ⟨rs, hr, o2.sl, by have := hr.len l1; have := o2.len; omega⟩, hb⟩
theorem divN_zero (h0 : IsN w N L s A n c) (h1 : IsN w 0 K t A2 m c2) (hE : Env w) (hL : L ≤ 1000000) (hK : K ≤ 1000000) : Calls Tryz.prog 23 #[.agg #[.bool s, .slice A n c], .agg #[.bool t, .slice A2 m c2]] w fun e w' => e = .returned (.tuple #[.agg #[.bool false, .slice none 0 0], .agg #[.bool false, .slice none 0 0], .int .i64 20]) ∧ Below w.heap.size w w' := by
  obtain ⟨xs, w0, s0, n0⟩ := h0
  obtain ⟨ys, w1, s1, n1⟩ := h1
  have := bdivmod_any (s := s) (t := t) s0 s1 (Nat.le_refl _) hE.half hE.hz w0.row.dg w1.row.dg (by omega) (by omega)
  rw [w0.val, w1.val] at this
  refine this.mono ?_
  rintro e w' (⟨_, h, hb⟩ | ⟨hz, _⟩)
  · exact ⟨h, hb⟩
  · exact absurd rfl hz
end
end Go.Proofs.YtbjooeapjhaapaaGreatDoor
