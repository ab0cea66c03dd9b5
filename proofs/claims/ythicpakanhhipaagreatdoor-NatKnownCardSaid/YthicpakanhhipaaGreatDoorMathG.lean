/- Plain maths of the greatest divisor: Euclid's steps, and several of them told by the first words alone. No program stands in it. -/
import Derived.Test.YthicpakanhhipaaGreatDoorMath
namespace Go.Proofs.YthicpakanhhipaaGreatDoor

def gcdI (a b : Int) : Int := Nat.gcd a.toNat b.toNat
theorem gcdI_zero {a : Int} (ha : 0 ≤ a) : gcdI a 0 = a := by simp [gcdI]; omega
theorem gcdI_next {a b : Int} (ha : 0 ≤ a) (hb : 0 < b) : gcdI b (a % b) = gcdI a b := by
  unfold gcdI
  rw [Int.toNat_emod ha (by omega), Nat.gcd_comm, ← Nat.gcd_rec, Nat.gcd_comm]
theorem gcdI_comm (a b : Int) : gcdI a b = gcdI b a := by unfold gcdI; rw [Nat.gcd_comm]
theorem gcdI_nonneg (a b : Int) : 0 ≤ gcdI a b := Int.natCast_nonneg _
/-- It goes into both, and what is left over of both by it have none but 1. -/
theorem gcdI_parts {a b : Int} (ha : 0 ≤ a) (hb : 0 < b) : 0 < gcdI a b ∧ a % gcdI a b = 0 ∧ b % gcdI a b = 0 ∧ gcdI (a / gcdI a b) (b / gcdI a b) = 1 := by
  obtain ⟨m, rfl⟩ : ∃ m : Nat, a = m := ⟨a.toNat, by omega⟩
  obtain ⟨n, rfl⟩ : ∃ n : Nat, b = n := ⟨b.toNat, by omega⟩
  have hn : 0 < n := by omega
  have hg : 0 < Nat.gcd m n := Nat.gcd_pos_of_pos_right _ hn
  have e : gcdI (m : Int) (n : Int) = (Nat.gcd m n : Int) := by simp [gcdI]
  rw [e]
  refine ⟨by omega, ?_, ?_, ?_⟩
  · have := Nat.mod_eq_zero_of_dvd (Nat.gcd_dvd_left m n); omega
  · have := Nat.mod_eq_zero_of_dvd (Nat.gcd_dvd_right m n); omega
  · unfold gcdI
    rw [← Int.natCast_ediv, ← Int.natCast_ediv, Int.toNat_natCast, Int.toNat_natCast, Nat.gcd_div (Nat.gcd_dvd_left m n) (Nat.gcd_dvd_right m n), Nat.div_self hg]
    rfl
/-- Both parts by a whole turn of two. -/
theorem gcdI_turn {a b p q r t x y s : Int} (ha : 0 ≤ a) (hb : 0 ≤ b) (hs : s = 1 ∨ s = -1) (hd : p * t - q * r = s) (hx : x = p * a + q * b) (hy : y = r * a + t * b) (x0 : 0 ≤ x) (y0 : 0 ≤ y) : gcdI x y = gcdI a b := by
  have key : ∀ {a b p q x y : Int} {r t : Int}, 0 ≤ a → 0 ≤ b → 0 ≤ x → 0 ≤ y → x = p * a + q * b → y = r * a + t * b → Nat.gcd a.toNat b.toNat ∣ Nat.gcd x.toNat y.toNat := by
    intro a b p q x y r t ha hb x0 y0 hx hy
    have h1 : ((Nat.gcd a.toNat b.toNat : Nat) : Int) ∣ a := by
      have := Int.ofNat_dvd.2 (Nat.gcd_dvd_left a.toNat b.toNat)
      rwa [Int.toNat_of_nonneg ha] at this
    have h2 : ((Nat.gcd a.toNat b.toNat : Nat) : Int) ∣ b := by
      have := Int.ofNat_dvd.2 (Nat.gcd_dvd_right a.toNat b.toNat)
      rwa [Int.toNat_of_nonneg hb] at this
    refine Nat.dvd_gcd (Int.ofNat_dvd.1 ?_) (Int.ofNat_dvd.1 ?_)
    · rw [Int.toNat_of_nonneg x0, hx]
      exact Int.dvd_add (Int.dvd_mul_of_dvd_right h1) (Int.dvd_mul_of_dvd_right h2)
    · rw [Int.toNat_of_nonneg y0, hy]
      exact Int.dvd_add (Int.dvd_mul_of_dvd_right h1) (Int.dvd_mul_of_dvd_right h2)
  unfold gcdI
  congr 1
  refine Nat.dvd_antisymm ?_ (key (p := p) (q := q) (r := r) (t := t) ha hb x0 y0 hx hy)
  have hss : s * s = 1 := by rcases hs with rfl | rfl <;> rfl
  refine key (p := s * t) (q := -(s * q)) (r := -(s * r)) (t := s * p) x0 y0 ha hb ?_ ?_
  · rw [hx, hy]
    have : a = s * s * a := by rw [hss, Int.one_mul]
    rw [← hd] at this ⊢
    grind
  · rw [hx, hy]
    have : b = s * s * b := by rw [hss, Int.one_mul]
    rw [← hd] at this ⊢
    grind

/-- A chain of divisions of a0 by b0: a and b are the last two rests, v and n what of a0 and b0 each counts; so they are of all A and B that begin so. -/
structure Turn (a0 b0 a b vA vB nA nB s : Int) : Prop where
  hs : s = 1 ∨ s = -1
  ra : a = s * (vA * a0 - vB * b0)
  rb : b = -s * (nA * a0 - nB * b0)
  det : vA * nB - nA * vB = s
  v0 : 0 ≤ vA ∧ 0 ≤ vB
  n0 : 0 ≤ nA ∧ 1 ≤ nB
  le : nA ≤ nB
  up : vB ≤ nB
  ord : 0 ≤ b ∧ b ≤ a
  first : (vA = 1 ∧ vB = 0 ∧ nA = 0 ∧ nB = 1 ∧ s = 1) ∨ vA ≤ vB
  cap : ∀ A B K : Int, 0 < K → a0 * K ≤ A → A < a0 * K + K → b0 * K ≤ B → B < b0 * K + K → vB ≠ 0 → s * (vA * A - vB * B) ≤ B
theorem Turn.start {a0 b0 : Int} (h0 : 0 ≤ b0) (h : b0 ≤ a0) : Turn a0 b0 a0 b0 1 0 0 1 1 :=
  ⟨.inl rfl, by omega, by omega, by decide, by decide, by decide, by decide, by decide, ⟨h0, h⟩, .inl ⟨rfl, rfl, rfl, rfl, rfl⟩, fun _ _ _ _ _ _ _ _ h => absurd rfl h⟩
theorem Turn.sum {a0 b0 a b vA vB nA nB s : Int} (h : Turn a0 b0 a b vA vB nA nB s) : a * nB + b * vB = a0 := by
  have e := h.det
  have hss : s * s = 1 := by rcases h.hs with h | h <;> rw [h] <;> rfl
  have : a0 = s * s * a0 := by rw [hss, Int.one_mul]
  rw [h.ra, h.rb]
  rw [← e] at this ⊢
  grind
theorem Turn.le0 {a0 b0 a b vA vB nA nB s : Int} (h : Turn a0 b0 a b vA vB nA nB s) : a ≤ a0 := by
  have hn := h.n0
  have ho := h.ord
  have hs := h.sum
  have m1 : a * 1 ≤ a * nB := Int.mul_le_mul_of_nonneg_left hn.2 (by omega)
  have m2 : 0 ≤ b * vB := Int.mul_nonneg ho.1 h.v0.2
  omega
/-- What a round asks ahead: both of the last rests are sure. -/
theorem Turn.sure {a0 b0 a b vA vB nA nB s : Int} (h : Turn a0 b0 a b vA vB nA nB s) (g1 : nB ≤ b) (g2 : vB + nB ≤ a - b) {A B K : Int} (hK : 0 < K) (hA : a0 * K ≤ A) (hA' : A < a0 * K + K) (hB : b0 * K ≤ B) (hB' : B < b0 * K + K) :
    0 ≤ -s * (nA * A - nB * B) ∧ -s * (nA * A - nB * B) < s * (vA * A - vB * B) := by
  obtain ⟨α, rfl⟩ : ∃ α, A = a0 * K + α := ⟨A - a0 * K, by omega⟩
  obtain ⟨β, rfl⟩ : ∃ β, B = b0 * K + β := ⟨B - b0 * K, by omega⟩
  have hα : 0 ≤ α ∧ α < K := by omega
  have hβ : 0 ≤ β ∧ β < K := by omega
  have hv := h.v0
  have hn := h.n0
  have e1 : -s * (nA * (a0 * K + α) - nB * (b0 * K + β)) = b * K - s * (nA * α) + s * (nB * β) := by rw [h.rb]; grind
  have e2 : s * (vA * (a0 * K + α) - vB * (b0 * K + β)) = a * K + s * (vA * α) - s * (vB * β) := by rw [h.ra]; grind
  have m1 : nB * K ≤ b * K := Int.mul_le_mul_of_nonneg_right g1 (by omega)
  have m2 : (vB + nB) * K ≤ (a - b) * K := Int.mul_le_mul_of_nonneg_right g2 (by omega)
  rw [Int.add_mul, Int.sub_mul] at m2
  have n1 : 0 ≤ nA * α := Int.mul_nonneg hn.1 hα.1
  have n2 : 0 ≤ nB * β := Int.mul_nonneg (by omega) hβ.1
  have n3 : 0 ≤ vA * α := Int.mul_nonneg hv.1 hα.1
  have n4 : 0 ≤ vB * β := Int.mul_nonneg hv.2 hβ.1
  have k1 : nA * α ≤ nB * α := Int.mul_le_mul_of_nonneg_right h.le hα.1
  have k2 : nB * (α + 1) ≤ nB * K := Int.mul_le_mul_of_nonneg_left (by omega) (by omega)
  have k3 : nB * (β + 1) ≤ nB * K := Int.mul_le_mul_of_nonneg_left (by omega) (by omega)
  have k4 : vB * β ≤ vB * K := Int.mul_le_mul_of_nonneg_left (by omega) hv.2
  have k5 : vB * α ≤ vB * K := Int.mul_le_mul_of_nonneg_left (by omega) hv.2
  rw [Int.mul_add] at k2 k3
  rw [e1, e2]
  rcases h.hs with hs1 | hs1
  · rw [hs1]
    omega
  · have k6 : vA * α ≤ vB * α := by
      rcases h.first with ⟨_, _, _, _, h1⟩ | h1
      · omega
      · exact Int.mul_le_mul_of_nonneg_right h1 hα.1
    rw [hs1]
    omega
theorem Turn.bound {a0 b0 a b vA vB nA nB s : Int} (h : Turn a0 b0 a b vA vB nA nB s) (g1 : nB ≤ b) (ha : a0 < 18446744073709551616) : nB < 4294967296 ∧ 0 ≤ vB + nB ∧ vB + nB < 18446744073709551616 ∧ 1 ≤ b ∧ vA ≤ 4294967295 := by
  have hn := h.n0
  have hv := h.v0
  have hs := h.sum
  have ho := h.ord
  have m1 : nB * nB ≤ a * nB := Int.mul_le_mul_of_nonneg_right (by omega) (by omega)
  have m2 : 1 * vB ≤ b * vB := Int.mul_le_mul_of_nonneg_right (by omega) hv.2
  have m3 : 1 * nB ≤ a * nB := Int.mul_le_mul_of_nonneg_right (by omega) (by omega)
  have hlt : nB < 4294967296 := by
    rcases Int.lt_or_le nB 4294967296 with h | h
    · exact h
    · have : 4294967296 * 4294967296 ≤ nB * nB := Int.mul_le_mul h h (by omega) (by omega)
      omega
  have hu := h.up
  refine ⟨hlt, by omega, by omega, by omega, ?_⟩
  rcases h.first with h1 | h1 <;> omega
theorem Turn.step {a0 b0 a b vA vB nA nB s : Int} (h : Turn a0 b0 a b vA vB nA nB s) (g1 : nB ≤ b) (g2 : vB + nB ≤ a - b) (ha : a0 < 18446744073709551616) :
    Turn a0 b0 b (a % b) nA nB (vA + a / b * nA) (vB + a / b * nB) (-s) ∧ (0 ≤ a / b * nA ∧ vA + a / b * nA < 18446744073709551616) ∧ (0 ≤ a / b * nB ∧ vB + a / b * nB < 18446744073709551616) ∧ 0 ≤ a / b ∧ a / b < 18446744073709551616 := by
  have hn := h.n0
  have hv := h.v0
  have ho := h.ord
  have hb : 0 < b := by omega
  have hq1 : 1 ≤ a / b := (Int.le_ediv_iff_mul_le hb).2 (by omega)
  have hr0 := Int.emod_nonneg a (show b ≠ 0 by omega)
  have hr1 := Int.emod_lt_of_pos a hb
  have hqr := Int.mul_ediv_add_emod a b
  have hsum := h.sum
  have hu := h.up
  have hle := h.le
  have q1 : 1 * nB ≤ a / b * nB := Int.mul_le_mul_of_nonneg_right hq1 (by omega)
  have q2 : 0 ≤ a / b * nA := Int.mul_nonneg (by omega) hn.1
  have q3 : a / b * nA ≤ a / b * nB := Int.mul_le_mul_of_nonneg_left hle (by omega)
  have q4 : a / b * 1 ≤ a / b * nB := Int.mul_le_mul_of_nonneg_left hn.2 (by omega)
  have hsr : -s = 1 ∨ -s = -1 := by rcases h.hs with h | h <;> omega
  have hfi : vA + a / b * nA ≤ vB + a / b * nB := by
    rcases h.first with ⟨h1, h2, h3, h4, _⟩ | h1
    · subst h1 h2 h3 h4; omega
    · omega
  have hT : Turn a0 b0 b (a % b) nA nB (vA + a / b * nA) (vB + a / b * nB) (-s) := by
    have e1 := h.ra
    have e2 := h.rb
    have e3 := h.det
    generalize hq : a / b = q at *
    have er : a % b = a - b * q := by omega
    refine ⟨hsr, by rw [e2], ?_, ?_, ⟨hn.1, by omega⟩, ⟨by omega, by omega⟩, hfi, by omega, ⟨hr0, by omega⟩, .inr hle, ?_⟩
    · rw [er, e1]
      conv => lhs; rw [e2]
      grind
    · rw [← e3]; grind
    · intro A B K hK hA hA' hB hB' _
      have h1 := h.sure g1 g2 hK hA hA' hB hB'
      rcases (show vB = 0 ∨ vB ≠ 0 by omega) with hz | hz
      · rcases h.first with ⟨h3, h4, h5, h6, h7⟩ | h3
        · subst h5 h6 h7; omega
        · have : vA = 0 := by omega
          rw [this, hz] at e3
          simp at e3
          rcases h.hs with h | h <;> omega
      · have := h.cap A B K hK hA hA' hB hB' hz
        omega
  have hs2 := hT.sum
  have m1 : 1 * (vB + a / b * nB) ≤ b * (vB + a / b * nB) := Int.mul_le_mul_of_nonneg_right (by omega) (by omega)
  have m2 : 0 ≤ a % b * nB := Int.mul_nonneg hr0 (by omega)
  exact ⟨hT, ⟨q2, by omega⟩, ⟨by omega, by omega⟩, by omega, by omega⟩
/-- What the turns answer: nothing sure, or two rests that are so of all numbers that begin so. -/
def TurnsOk (a0 b0 uA uB vA vB : Int) : Prop :=
  uB = 0 ∨ ∃ s : Int, (s = 1 ∨ s = -1) ∧ uA * vB - vA * uB = s ∧ (0 ≤ uA ∧ uA < 4294967296) ∧ (0 ≤ uB ∧ uB < 4294967296) ∧ (0 ≤ vA ∧ vA < 4294967296) ∧ (0 ≤ vB ∧ vB < 4294967296) ∧
    ∀ A B K : Int, 0 < K → a0 * K ≤ A → A < a0 * K + K → b0 * K ≤ B → B < b0 * K + K → 0 ≤ -s * (vA * A - vB * B) ∧ -s * (vA * A - vB * B) < s * (uA * A - uB * B) ∧ s * (uA * A - uB * B) ≤ B
theorem Turn.ok {a0 b0 a b uA uB vA vB s : Int} (h : Turn a0 b0 a b uA uB vA vB s) (g1 : vB ≤ b) (g2 : uB + vB ≤ a - b) (ha : a0 < 18446744073709551616) : TurnsOk a0 b0 uA uB vA vB := by
  have hb := h.bound g1 ha
  have hv := h.v0
  have hn := h.n0
  have hu := h.up
  have hl := h.le
  rcases (show uB = 0 ∨ uB ≠ 0 by omega) with hz | hz
  · exact .inl hz
  · refine .inr ⟨s, h.hs, h.det, ⟨hv.1, by omega⟩, ⟨hv.2, by omega⟩, ⟨hn.1, by omega⟩, ⟨by omega, by omega⟩, fun A B K hK hA hA' hB hB' => ?_⟩
    have := h.sure g1 g2 hK hA hA' hB hB'
    exact ⟨this.1, this.2, h.cap A B K hK hA hA' hB hB' hz⟩
/-- Two rests of A and B: their greatest divisor stays. -/
theorem TurnsOk.parts {a0 b0 uA uB vA vB : Int} (h : TurnsOk a0 b0 uA uB vA vB) (hu : uB ≠ 0) {A B K : Int} (hK : 0 < K) (hA : a0 * K ≤ A) (hA' : A < a0 * K + K) (hB : b0 * K ≤ B) (hB' : B < b0 * K + K) (A0 : 0 ≤ A) (B0 : 0 ≤ B) :
    ∃ C D : Int, (uA * A - uB * B = C ∨ uB * B - uA * A = C) ∧ (vA * A - vB * B = D ∨ vB * B - vA * A = D) ∧ 0 ≤ D ∧ D < C ∧ C ≤ B ∧ gcdI C D = gcdI A B := by
  rcases h with h | ⟨s, hs, hd, _, _, _, _, hr⟩
  · exact absurd h hu
  · obtain ⟨r1, r2, r3⟩ := hr A B K hK hA hA' hB hB'
    refine ⟨s * (uA * A - uB * B), -s * (vA * A - vB * B), ?_, ?_, r1, r2, r3, ?_⟩
    · rcases hs with rfl | rfl <;> omega
    · rcases hs with rfl | rfl <;> omega
    · refine gcdI_turn (p := s * uA) (q := -(s * uB)) (r := -(s * vA)) (t := s * vB) A0 B0 hs ?_ ?_ ?_ (by omega) r1
      · have hss : s * s = 1 := by rcases hs with rfl | rfl <;> rfl
        have : s = s * s * s := by rw [hss, Int.one_mul]
        grind
      · grind
      · grind
end Go.Proofs.YthicpakanhhipaaGreatDoor
