/- Plain maths of long division with a guessed digit. No program stands in it. -/
import Derived.Test.YthicpakanhhipaaGreatDoorMath
namespace Go.Proofs.YthicpakanhhipaaGreatDoor

theorem mul_lt_cancel {a b c : Int} (h : a * c < b * c) (hc : 0 ≤ c) : a < b := Int.lt_of_mul_lt_mul_right h hc
/-- The digit is not above the guess: V = v B + Vl, U = u B + Ul. -/
theorem guess_ge {q v B Vl u Ul V U : Int} (hB : 0 < B) (hV : V = v * B + Vl) (hVl : 0 ≤ Vl) (hU : U = u * B + Ul) (hUl : Ul < B) (hq0 : 0 ≤ q) (hq : q * V ≤ U) : q * v ≤ u := by
  have h1 : q * V = q * v * B + q * Vl := by rw [hV, Int.mul_add, Int.mul_assoc]
  have h2 : 0 ≤ q * Vl := Int.mul_nonneg hq0 hVl
  have h3 : (q * v) * B < (u + 1) * B := by rw [Int.add_mul, Int.one_mul]; omega
  have := mul_lt_cancel h3 (by omega)
  omega
/-- The guess is at most two above the digit, where twice the divisor's top limb is at least the base. -/
theorem guess_le {g q v B Vl u Ul V U β : Int} (hB : 0 < B) (hV : V = v * B + Vl) (hVl : 0 ≤ Vl ∧ Vl < B) (hU : U = u * B + Ul) (hUl : 0 ≤ Ul) (hg : g * v ≤ u) (hgβ : g < β) (hn : β ≤ 2 * v) (hv : 0 ≤ v) (hq0 : 0 ≤ q)
    (hq : U < (q + 1) * V) : g ≤ q + 2 := by
  rcases Int.lt_or_le (q + 2) g with hlt | hle
  · have h1 : (q + 1) * V = (q + 1) * v * B + (q + 1) * Vl := by rw [hV, Int.mul_add, Int.mul_assoc]
    have h2 : (q + 1) * Vl ≤ (q + 1) * B := Int.mul_le_mul_of_nonneg_left (by omega) (by omega)
    have h3 : g * v * B ≤ u * B := Int.mul_le_mul_of_nonneg_right hg (by omega)
    have h4 : (g * v) * B < ((q + 1) * v + (q + 1)) * B := by rw [Int.add_mul]; omega
    have h5 := mul_lt_cancel h4 (by omega)
    have h6 : 2 * v ≤ (g - (q + 1)) * v := Int.mul_le_mul_of_nonneg_right (by omega) hv
    rw [Int.sub_mul] at h6
    omega
  · exact hle
/-- The guess is below the base, and above the digit, where the second limbs say so. -/
theorem guess_test {g q v v2 C β Vl u u2 Ul V U : Int} (hC : 0 < C) (hV : V = (v * β + v2) * C + Vl) (hVl : 0 ≤ Vl) (hU : U = (u * β + u2) * C + Ul) (hUl : Ul < C) (hq0 : 0 ≤ q) (hq : q * V ≤ U) (ht : (u - g * v) * β + u2 < g * v2) (hp : 0 ≤ v * β + v2) : q < g := by
  have h1 := guess_ge hC hV hVl hU hUl hq0 hq
  rcases Int.lt_or_le q g with h | h
  · exact h
  · have h2 : g * (v * β + v2) ≤ q * (v * β + v2) := Int.mul_le_mul_of_nonneg_right h hp
    have h3 : g * (v * β + v2) = g * v * β + g * v2 := by rw [Int.mul_add, Int.mul_assoc]
    rw [Int.sub_mul] at ht
    omega
/-- The digit, by what is left. -/
theorem quo_eq {U V q r : Int} (h : U = q * V + r) (h0 : 0 ≤ r) (h1 : r < V) : U / V = q ∧ U % V = r := by
  subst h
  rw [Int.add_comm, Int.add_mul_ediv_right _ _ (by omega), Int.add_mul_emod_self_right, Int.ediv_eq_zero_of_lt h0 h1, Int.emod_eq_of_lt h0 h1]
  omega
/-- Both scaled by the same: the quotient stays, what is left is scaled. -/
theorem scale_div {U V s : Int} (hV : 0 < V) (hs : 0 < s) : (U * s) / (V * s) = U / V ∧ (U * s) % (V * s) = (U % V) * s := by
  have h0 := Int.emod_nonneg U (show V ≠ 0 by omega)
  have h1 := Int.emod_lt_of_pos U hV
  refine quo_eq ?_ (Int.mul_nonneg h0 (by omega)) (Int.mul_lt_mul_of_pos_right h1 hs)
  conv => lhs; rw [← Int.mul_ediv_add_emod U V]
  rw [Int.add_mul, Int.mul_comm V, Int.mul_assoc]
/-- The next digit: what was left, and one limb more. -/
theorem next_digit {U V x β Q R : Int} (hV : 0 < V) (hU : U = Q * V + R) (hR : 0 ≤ R ∧ R < V) (hx : 0 ≤ x ∧ x < β) :
    (U * β + x) / V = Q * β + (R * β + x) / V ∧ (U * β + x) % V = (R * β + x) % V ∧ R * β + x < β * V := by
  have e : U * β + x = (R * β + x) + (Q * β) * V := by
    rw [hU, Int.add_mul, Int.mul_assoc, Int.mul_comm V β, ← Int.mul_assoc]; omega
  refine ⟨?_, ?_, ?_⟩
  · rw [e, Int.add_mul_ediv_right _ _ (by omega)]; omega
  · rw [e, Int.add_mul_emod_self_right]
  · have h1 : (R + 1) * β ≤ V * β := Int.mul_le_mul_of_nonneg_right (by omega) (by omega)
    rw [Int.add_mul, Int.one_mul] at h1
    rw [Int.mul_comm β V]
    omega
/-- Behind i digits of S with x times X added (σ = 1) or taken away (σ = -1) from place o on, cr carried. -/
structure Mac (β σ x : Int) (S X S1 : List Int) (o i : Nat) (cr : Int) : Prop where
  dg : Dg β S1
  len : S1.length = S.length
  low : S1.take o = S.take o
  rest : S1.drop (o + i) = S.drop (o + i)
  num : val β (S1.take (o + i)) + σ * (β ^ (o + i) * cr) = val β (S.take (o + i)) + σ * (β ^ o * (x * val β (X.take i)))
theorem Mac.start {β σ x : Int} {S X : List Int} {o : Nat} (h : Dg β S) : Mac β σ x S X S o 0 0 := ⟨h, rfl, rfl, rfl, by simp [val]⟩
theorem Mac.at_ {β σ x : Int} {S X S1 : List Int} {o i : Nat} {cr : Int} (h : Mac β σ x S X S1 o i cr) : S1[o + i]? = S[o + i]? := by
  have := congrArg (fun l => l[0]?) h.rest
  simpa using this
theorem Mac.step {β σ x : Int} {S X S1 : List Int} {o i : Nat} {cr s y d cr' : Int} (h : Mac β σ x S X S1 o i cr) (hs : S1[o + i]? = some s) (hy : X[i]? = some y)
    (hd : 0 ≤ d ∧ d < β) (e : d + σ * (β * cr') = s + σ * (x * y + cr)) : Mac β σ x S X (S1.set (o + i) d) o (i + 1) cr' := by
  have hi := lt_of_get hs
  have hS : S[o + i]? = some s := by rw [← h.at_]; exact hs
  have hd' : (S1.set (o + i) d)[o + i]? = some d := by simp [hi]
  refine ⟨h.dg.set hd, by simp [h.len], by rw [List.take_set_of_le (by omega), h.low], ?_, ?_⟩
  · rw [← Nat.add_assoc, List.drop_set_of_lt (by omega)]
    have := congrArg (List.drop 1) h.rest
    simpa [List.drop_drop, Nat.add_assoc] using this
  · rw [← Nat.add_assoc, take_succ_of hd', take_succ_of hS, take_succ_of hy, List.take_set_of_le (by omega), val_snoc, val_snoc, val_snoc, List.length_take, List.length_take, List.length_take,
      Nat.min_eq_left (by omega), Nat.min_eq_left (by have := lt_of_get hS; omega), Nat.min_eq_left (by have := lt_of_get hy; omega)]
    have hn := h.num
    have e1 : β ^ (o + i) * (d + σ * (β * cr')) = β ^ (o + i) * (s + σ * (x * y + cr)) := by rw [e]
    have e2 : β ^ (o + i) = β ^ o * β ^ i := Int.pow_add _ _ _
    rw [Int.pow_succ]
    grind
theorem Mac.stop {β σ x : Int} {S X S1 : List Int} {o i : Nat} {cr : Int} (h : Mac β σ x S X S1 o i cr) (hX : X.length = i) (hi : o + i ≤ S.length) :
    val β S1 + σ * (β ^ (o + i) * cr) = val β S + σ * (β ^ o * (x * val β X)) := by
  have hn := h.num
  rw [List.take_of_length_le (l := X) (by omega)] at hn
  have a : val β S1 = val β (S1.take (o + i)) + β ^ (o + i) * val β (S1.drop (o + i)) := by
    conv => lhs; rw [← List.take_append_drop (o + i) S1]
    rw [val_append, List.length_take, Nat.min_eq_left (by have := h.len; omega)]
  have b : val β S = val β (S.take (o + i)) + β ^ (o + i) * val β (S.drop (o + i)) := by
    conv => lhs; rw [← List.take_append_drop (o + i) S]
    rw [val_append, List.length_take, Nat.min_eq_left (by omega)]
  rw [a, b, h.rest]
  omega
/-- One digit more, put where there was one. -/
theorem val_set {β : Int} {S : List Int} {k : Nat} {s d : Int} (hs : S[k]? = some s) : val β (S.set k d) = val β S + β ^ k * (d - s) := by
  have hk := lt_of_get hs
  have hd : (S.set k d)[k]? = some d := by simp [hk]
  have e1 := congrArg (val β) (getElem?_split hs)
  have e2 := congrArg (val β) (getElem?_split hd)
  rw [e1, e2, val_append, val_append, List.take_set_of_le (by omega), List.drop_set_of_lt (by omega), List.length_take, Nat.min_eq_left (by omega)]
  simp only [val]
  grind
/-- A product's digit. -/
theorem mac_digit {x y s c : Int} (hx : 0 ≤ x ∧ x < 4294967296) (hy : 0 ≤ y ∧ y < 4294967296) (hs : 0 ≤ s ∧ s < 4294967296) (hc : 0 ≤ c ∧ c < 4294967296) :
    (0 ≤ x * y ∧ x * y ≤ 18446744065119617025) ∧ (0 ≤ c + (x * y + s) ∧ c + (x * y + s) ≤ 18446744073709551615) ∧ (0 ≤ (c + (x * y + s)) % 4294967296 ∧ (c + (x * y + s)) % 4294967296 < 4294967296) ∧
    (0 ≤ (c + (x * y + s)) / 4294967296 ∧ (c + (x * y + s)) / 4294967296 < 4294967296) ∧
    (c + (x * y + s)) % 4294967296 + 1 * (4294967296 * ((c + (x * y + s)) / 4294967296)) = s + 1 * (x * y + c) := by
  have h0 : 0 ≤ x * y := Int.mul_nonneg hx.1 hy.1
  have h1 : x * y ≤ 4294967295 * 4294967295 := Int.mul_le_mul (by omega) (by omega) hy.1 (by omega)
  omega
/-- A product, digit row by digit row: X's first i taken so far; noughts stand behind. -/
structure MulI (β : Int) (X Y P : List Int) (i : Nat) : Prop where
  dg : Dg β P
  len : P.length = X.length + Y.length
  num : val β P = val β (X.take i) * val β Y
  zero : P.drop (i + Y.length) = List.replicate (X.length - i) 0
theorem MulI.start {β : Int} (hβ : 0 < β) (X Y : List Int) : MulI β X Y (List.replicate (X.length + Y.length) 0) 0 :=
  ⟨Dg.zeros hβ _, by simp, by simp [val, val_zeros], by simp⟩
theorem MulI.step {β : Int} (hβ : 0 < β) {X Y P S1 : List Int} {i : Nat} {x cr : Int} (h : MulI β X Y P i) (hx : X[i]? = some x) (hm : Mac β 1 x P Y S1 i Y.length cr) (hc : 0 ≤ cr ∧ cr < β) :
    S1[i + Y.length]? = some 0 ∧ MulI β X Y (S1.set (i + Y.length) cr) (i + 1) := by
  have hi := lt_of_get hx
  have hz : S1[i + Y.length]? = some 0 := by
    have := congrArg (fun l => l[0]?) (hm.rest.trans h.zero)
    simp only [List.getElem?_drop, Nat.add_zero, List.getElem?_replicate] at this
    rw [this, if_pos (by omega)]
  refine ⟨hz, hm.dg.set hc, by simp [hm.len, h.len], ?_, ?_⟩
  · have hs := hm.stop rfl (by have := h.len; omega)
    rw [val_set hz, val_take_next, hx, Option.getD_some]
    have hn := h.num
    grind
  · rw [List.drop_set_of_lt (by omega), show i + 1 + Y.length = (i + Y.length) + 1 by omega, ← List.drop_drop, hm.rest, h.zero, List.drop_replicate]
    rfl

theorem val_split (β : Int) (L : List Int) {k : Nat} (hk : k ≤ L.length) : val β L = val β (L.take k) + β ^ k * val β (L.drop k) := by
  conv => lhs; rw [← List.take_append_drop k L]
  rw [val_append, List.length_take, Nat.min_eq_left hk]
theorem val_head (β : Int) {L : List Int} {k : Nat} {x : Int} (h : L[k]? = some x) : val β (L.drop k) = x + β * val β (L.drop (k + 1)) := by
  rw [drop_of h]; rfl
theorem Mac.high {β σ x : Int} (hβ : 0 < β) {S X S1 : List Int} {o i : Nat} {cr : Int} (h : Mac β σ x S X S1 o i cr) (hX : X.length = i) (hi : o + i ≤ S.length) :
    val β (S1.drop o) + σ * (β ^ i * cr) = val β (S.drop o) + σ * (x * val β X) := by
  have e := h.stop hX hi
  rw [val_split β S1 (k := o) (by have := h.len; omega), val_split β S (k := o) (by omega), h.low, Int.pow_add] at e
  have p := pow_pos' hβ o
  refine Int.eq_of_mul_eq_mul_left (show β ^ o ≠ 0 by omega) ?_
  rw [Int.mul_add, Int.mul_add]
  grind
/-- S2 is S with d times V put to it (σ = 1) or taken from it (σ = -1) from place o on, over m + 1 digits; b is carried out of them. -/
structure Took (β σ d V : Int) (S S2 : List Int) (o m : Nat) (b : Int) : Prop where
  dg : Dg β S2
  len : S2.length = S.length
  low : S2.take o = S.take o
  rest : S2.drop (o + m + 1) = S.drop (o + m + 1)
  b01 : 0 ≤ b ∧ b ≤ 1
  num : val β (S2.drop o) + σ * (β ^ (m + 1) * b) = val β (S.drop o) + σ * (d * V)
theorem Mac.took {β σ x : Int} (hβ : 0 < β) {S X S1 : List Int} {o m : Nat} {cr s d b : Int} (h : Mac β σ x S X S1 o m cr) (hX : X.length = m) (hs : S1[o + m]? = some s) (hd : 0 ≤ d ∧ d < β) (hb : 0 ≤ b ∧ b ≤ 1)
    (e : d + σ * (β * b) = s + σ * cr) : Took β σ x (val β X) S (S1.set (o + m) d) o m b := by
  have hl := lt_of_get hs
  have hh := h.high hβ hX (by have := h.len; omega)
  refine ⟨h.dg.set hd, by simp [h.len], by rw [List.take_set_of_le (by omega), h.low], ?_, hb, ?_⟩
  · rw [List.drop_set_of_lt (by omega)]
    have := congrArg (List.drop 1) h.rest
    simpa [List.drop_drop] using this
  · have hs' : (S1.drop o)[m]? = some s := by rw [List.getElem?_drop]; exact hs
    have e1 : (S1.set (o + m) d).drop o = (S1.drop o).set m d := by rw [List.drop_set, if_neg (by omega)]; congr 1; omega
    rw [e1, val_set hs', Int.pow_succ]
    have e2 : β ^ m * (d + σ * (β * b)) = β ^ m * (s + σ * cr) := by rw [e]
    grind
theorem Dg.dropLt {β : Int} (hβ : 0 < β) {S : List Int} (h : Dg β S) {o m : Nat} (hz : val β (S.drop (o + m + 1)) = 0) (hl : o + m + 1 ≤ S.length) : 0 ≤ val β (S.drop o) ∧ val β (S.drop o) < β ^ (m + 1) := by
  refine ⟨val_nonneg hβ (h.drop o), ?_⟩
  rw [val_split β (S.drop o) (k := m + 1) (by rw [List.length_drop]; omega), List.drop_drop, ← Nat.add_assoc, hz, Int.mul_zero, Int.add_zero]
  have := val_lt hβ ((h.drop o).take (m + 1))
  rw [List.length_take, Nat.min_eq_left (by rw [List.length_drop]; omega)] at this
  exact this
theorem top_zero {β : Int} (hβ : 0 < β) {S : List Int} (h : Dg β S) {o m : Nat} (hl : o + m + 1 ≤ S.length) (hW : val β (S.drop o) < β ^ (m + 1)) : val β (S.drop (o + m + 1)) = 0 := by
  rw [val_split β (S.drop o) (k := m + 1) (by rw [List.length_drop]; omega), List.drop_drop, ← Nat.add_assoc] at hW
  have h1 := val_nonneg hβ ((h.drop o).take (m + 1))
  have h2 := val_nonneg hβ (h.drop (o + m + 1))
  have p := pow_pos' hβ (m + 1)
  rcases Int.lt_or_le 0 (val β (S.drop (o + m + 1))) with h3 | h3
  · have : β ^ (m + 1) * 1 ≤ β ^ (m + 1) * val β (S.drop (o + m + 1)) := Int.mul_le_mul_of_nonneg_left (by omega) (by omega)
    omega
  · omega
/-- One digit of the quotient taken: d, and what is left of the row from o on. -/
structure DigR (β V : Int) (S S2 : List Int) (o : Nat) (d : Int) : Prop where
  dg : Dg β S2
  len : S2.length = S.length
  low : S2.take o = S.take o
  quo : d = val β (S.drop o) / V
  left : val β (S2.drop o) = val β (S.drop o) % V
theorem Took.down {β V : Int} (hβ : 0 < β) {S S2 : List Int} {o m : Nat} {d : Int} (h : Took β (-1) d V S S2 o m 0) (hV : 0 < V) (hg : d = val β (S.drop o) / V ∨ d = val β (S.drop o) / V + 1) : DigR β V S S2 o d := by
  have hn := h.num
  have h0 := val_nonneg hβ (h.dg.drop o)
  have e1 := Int.mul_ediv_add_emod (val β (S.drop o)) V
  have e2 := Int.emod_nonneg (val β (S.drop o)) (show V ≠ 0 by omega)
  have e3 := Int.emod_lt_of_pos (val β (S.drop o)) hV
  have hq : d = val β (S.drop o) / V := by
    rcases hg with h | h
    · exact h
    · have : d * V = V * (val β (S.drop o) / V) + V := by rw [h, Int.add_mul, Int.one_mul, Int.mul_comm]
      simp only [Int.mul_zero, Int.add_zero] at hn
      omega
  refine ⟨h.dg, h.len, h.low, hq, ?_⟩
  have : d * V = V * (val β (S.drop o) / V) := by rw [hq, Int.mul_comm]
  simp only [Int.mul_zero, Int.add_zero] at hn
  omega
theorem Took.back {β V : Int} (hβ : 0 < β) {S S2 S3 : List Int} {o m : Nat} {d b : Int} (h : Took β (-1) d V S S2 o m 1) (h' : Took β 1 1 V S2 S3 o m b) (hS : Dg β S) (hl : o + m + 1 ≤ S.length) (hV : 0 < V)
    (hW : val β (S.drop o) < β ^ (m + 1)) (hg : d = val β (S.drop o) / V ∨ d = val β (S.drop o) / V + 1) : DigR β V S S3 o (d - 1) := by
  have hz := top_zero hβ hS hl hW
  have b2 := h.dg.dropLt hβ (o := o) (m := m) (by rw [h.rest]; exact hz) (by rw [h.len]; exact hl)
  have b3 := h'.dg.dropLt hβ (o := o) (m := m) (by rw [h'.rest, h.rest]; exact hz) (by rw [h'.len, h.len]; exact hl)
  have hn := h.num
  have hn' := h'.num
  have e1 := Int.mul_ediv_add_emod (val β (S.drop o)) V
  have e2 := Int.emod_nonneg (val β (S.drop o)) (show V ≠ 0 by omega)
  have e3 := Int.emod_lt_of_pos (val β (S.drop o)) hV
  have hb := h'.b01
  simp only [Int.mul_one, Int.one_mul] at hn hn'
  have hq : d = val β (S.drop o) / V + 1 := by
    rcases hg with h | h
    · have : d * V = V * (val β (S.drop o) / V) := by rw [h, Int.mul_comm]
      omega
    · exact h
  have e4 : d * V = V * (val β (S.drop o) / V) + V := by rw [hq, Int.add_mul, Int.one_mul, Int.mul_comm]
  refine ⟨h'.dg, h'.len.trans h.len, h'.low.trans h.low, by omega, ?_⟩
  rcases (show b = 0 ∨ b = 1 by omega) with rfl | rfl
  · simp only [Int.mul_zero, Int.add_zero] at hn'
    omega
  · simp only [Int.mul_one] at hn'
    omega
/-- What a guess knows: f, s the divisor's first two digits, hi and u the row's first two and its third, q the digit. -/
structure GuessE (f s hi u q : Int) : Prop where
  hf : 2147483648 ≤ f ∧ f < 4294967296
  hs : 0 ≤ s ∧ s < 4294967296
  hu : 0 ≤ u ∧ u < 4294967296
  hh : 0 ≤ hi ∧ hi ≤ f * 4294967296 + 4294967295
  hq : 0 ≤ q ∧ q < 4294967296
  low : q * (f * 4294967296 + s) ≤ hi * 4294967296 + u
  up : hi * 4294967296 + u < (q + 1) * (f * 4294967296 + s + 1)
structure GuessI (f hi q d r : Int) : Prop where
  sum : d * f + r = hi
  r0 : 0 ≤ r
  ge : q ≤ d
theorem GuessE.start {f s hi u q : Int} (h : GuessE f s hi u q) : GuessI f hi q (hi / f) (hi % f) := by
  have hf := h.hf
  refine ⟨?_, Int.emod_nonneg _ (by omega), ?_⟩
  · have := Int.mul_ediv_add_emod hi f
    rw [Int.mul_comm]; exact this
  · refine (Int.le_ediv_iff_mul_le (by omega)).2 ?_
    have h1 := h.low
    have h2 := h.hu
    have h3 : 0 ≤ q * s := Int.mul_nonneg h.hq.1 h.hs.1
    have h4 : q * (f * 4294967296 + s) = q * f * 4294967296 + q * s := by rw [Int.mul_add, Int.mul_assoc]
    omega
theorem GuessE.bound {f s hi u q d r : Int} (h : GuessE f s hi u q) (hi' : GuessI f hi q d r) : 0 ≤ d ∧ d ≤ 4294967297 ∧ 0 ≤ r ∧ r ≤ 18446744073709551615 := by
  have h1 := hi'.sum
  have h2 := hi'.r0
  have h3 := hi'.ge
  have h4 := h.hq
  have h5 := h.hf
  have h6 := h.hh
  have h7 : 0 ≤ d * f := Int.mul_nonneg (by omega) (by omega)
  refine ⟨by omega, ?_, h2, by omega⟩
  rcases Int.lt_or_le 4294967297 d with h8 | h8
  · have : 4294967298 * f ≤ d * f := Int.mul_le_mul_of_nonneg_right (by omega) (by omega)
    omega
  · exact h8
/-- Too great by far, or by the second digits: one less. -/
theorem GuessE.less {f s hi u q d r : Int} (h : GuessE f s hi u q) (hi' : GuessI f hi q d r) (ht : 4294967295 < d ∨ r * 4294967296 + u < d * s) : GuessI f hi q (d - 1) (r + f) := by
  have h1 := hi'.sum
  have h5 := h.hf
  refine ⟨by rw [Int.sub_mul, Int.one_mul]; omega, by have := hi'.r0; omega, ?_⟩
  have h4 := h.hq
  rcases ht with ht | ht
  · omega
  · rcases Int.lt_or_le q d with hlt | hle
    · omega
    · exfalso
      have e1 : d * (f * 4294967296 + s) ≤ q * (f * 4294967296 + s) := Int.mul_le_mul_of_nonneg_right hle (by have := h.hs; omega)
      have e2 : d * (f * 4294967296 + s) = d * f * 4294967296 + d * s := by rw [Int.mul_add, Int.mul_assoc]
      have := h.low
      omega
theorem GuessE.done {f s hi u q d r : Int} (h : GuessE f s hi u q) (hi' : GuessI f hi q d r) (ht : d * s ≤ r * 4294967296 + u) : d = q ∨ d = q + 1 := by
  have h1 := hi'.sum
  have h3 := hi'.ge
  rcases Int.lt_or_le (q + 1) d with hlt | hle
  · exfalso
    have e1 : (q + 2) * (f * 4294967296 + s) ≤ d * (f * 4294967296 + s) := Int.mul_le_mul_of_nonneg_right (by omega) (by have := h.hs; have := h.hf; omega)
    have e2 : d * (f * 4294967296 + s) = d * f * 4294967296 + d * s := by rw [Int.mul_add, Int.mul_assoc]
    have e3 : (q + 2) * (f * 4294967296 + s) = (q + 1) * (f * 4294967296 + s + 1) + (f * 4294967296 + s) - (q + 1) := by
      rw [Int.mul_add (q + 1) _ 1, show q + 2 = (q + 1) + 1 by omega, Int.add_mul (q + 1) 1]; omega
    have := h.up
    have := h.hq
    have := h.hf
    have := h.hs
    omega
  · omega
theorem GuessE.broke {f s hi u q d r : Int} (h : GuessE f s hi u q) (hi' : GuessI f hi q d r) (ht : 4294967295 < r) : d ≤ 4294967295 ∧ (d = q ∨ d = q + 1) := by
  have h1 := hi'.sum
  have h5 := h.hf
  have h6 := h.hh
  have h3 := hi'.ge
  have h4 := h.hq
  have hd : d ≤ 4294967295 := by
    rcases Int.lt_or_le 4294967295 d with h8 | h8
    · have : 4294967296 * f ≤ d * f := Int.mul_le_mul_of_nonneg_right (by omega) (by omega)
      omega
    · exact h8
  refine ⟨hd, h.done hi' ?_⟩
  have : d * s ≤ 4294967295 * 4294967295 := Int.mul_le_mul hd (by have := h.hs; omega) h.hs.1 (by omega)
  have := h.hu
  omega
/-- The same of two rows. -/
theorem GuessE.of {S X : List Int} {o p : Nat} {f s u0 u1 u2 : Int} (hS : Dg 4294967296 S) (hX : Dg 4294967296 X) (hl : X.length = p + 2) (ef : X[p + 1]? = some f) (es : X[p]? = some s) (hf : 2147483648 ≤ f)
    (e0 : S[o + p + 2]? = some u0) (e1 : S[o + p + 1]? = some u1) (e2 : S[o + p]? = some u2) (hW : val 4294967296 (S.drop o) < 4294967296 * val 4294967296 X) :
    0 < val 4294967296 X ∧ val 4294967296 (S.drop o) < 4294967296 ^ (p + 2 + 1) ∧ GuessE f s (u0 * 4294967296 + u1) u2 (val 4294967296 (S.drop o) / val 4294967296 X) := by
  have lS := lt_of_get e0
  have df := hX.get ef
  have ds := hX.get es
  have d0 := hS.get e0
  have d1 := hS.get e1
  have d2 := hS.get e2
  have hXv : val 4294967296 X = val 4294967296 (X.take p) + 4294967296 ^ p * (f * 4294967296 + s) := by
    rw [val_split 4294967296 X (k := p) (by omega), val_head _ es, val_head _ ef, List.drop_of_length_le (by omega)]
    simp only [val]
    congr 2
    omega
  have x0 := val_nonneg (β := 4294967296) (by decide) (hX.take p)
  have x1 := val_lt (β := 4294967296) (by decide) (hX.take p)
  rw [List.length_take, Nat.min_eq_left (by omega)] at x1
  have p0 := pow_pos' (show (0 : Int) < 4294967296 by decide) p
  have hV : 0 < val 4294967296 X := by
    have : 4294967296 ^ p * 1 ≤ 4294967296 ^ p * (f * 4294967296 + s) := Int.mul_le_mul_of_nonneg_left (by omega) (by omega)
    omega
  have hXlt : val 4294967296 X < 4294967296 ^ (p + 2) := by rw [← hl]; exact val_lt (by decide) hX
  have hW2 : val 4294967296 (S.drop o) < 4294967296 ^ (p + 2 + 1) := by rw [Int.pow_succ]; omega
  have hz := top_zero (β := 4294967296) (by decide) hS (o := o) (m := p + 2) (by omega) hW2
  have hSv : val 4294967296 (S.drop o) = val 4294967296 ((S.drop o).take p) + 4294967296 ^ p * ((u0 * 4294967296 + u1) * 4294967296 + u2) := by
    rw [val_split 4294967296 (S.drop o) (k := p) (by rw [List.length_drop]; omega), List.drop_drop, val_head _ e2, val_head _ e1]
    have : val 4294967296 (S.drop (o + p + 1 + 1)) = u0 + 4294967296 * 0 := by rw [← hz]; exact val_head _ e0
    rw [this]
    congr 2
    omega
  have s0 := val_nonneg (β := 4294967296) (by decide) ((hS.drop o).take p)
  have s1 := val_lt (β := 4294967296) (by decide) ((hS.drop o).take p)
  rw [List.length_take, Nat.min_eq_left (by rw [List.length_drop]; omega)] at s1
  have W0 := val_nonneg (β := 4294967296) (by decide) (hS.drop o)
  have q0 : 0 ≤ val 4294967296 (S.drop o) / val 4294967296 X := Int.ediv_nonneg W0 (by omega)
  have q1 : val 4294967296 (S.drop o) / val 4294967296 X < 4294967296 := Int.ediv_lt_of_lt_mul hV (by rw [Int.mul_comm] at hW; rw [Int.mul_comm]; omega)
  have qlo := Int.ediv_mul_le (val 4294967296 (S.drop o)) (show val 4294967296 X ≠ 0 by omega)
  have qhi := Int.lt_ediv_add_one_mul_self (val 4294967296 (S.drop o)) hV
  refine ⟨hV, hW2, ⟨⟨hf, df.2⟩, ds, d2, ⟨by omega, ?_⟩, ⟨q0, q1⟩, ?_, ?_⟩⟩
  · have hh : (4294967296 : Int) ^ p * ((u0 * 4294967296 + u1) * 4294967296 + u2) < 4294967296 ^ p * (4294967296 * (f * 4294967296 + s + 1)) := by
      have : (4294967296 : Int) ^ p * (4294967296 * (f * 4294967296 + s + 1)) = 4294967296 * (4294967296 ^ p * (f * 4294967296 + s)) + 4294967296 * 4294967296 ^ p := by grind
      omega
    have := Int.lt_of_mul_lt_mul_left hh (by omega)
    omega
  · generalize val 4294967296 (S.drop o) / val 4294967296 X = q at *
    have hh : (4294967296 : Int) ^ p * (q * (f * 4294967296 + s)) < 4294967296 ^ p * ((u0 * 4294967296 + u1) * 4294967296 + u2 + 1) := by
      have a1 : 0 ≤ q * val 4294967296 (X.take p) := Int.mul_nonneg q0 x0
      have a2 : q * val 4294967296 X = q * val 4294967296 (X.take p) + 4294967296 ^ p * (q * (f * 4294967296 + s)) := by rw [hXv]; grind
      rw [Int.mul_add _ _ 1]
      omega
    have := Int.lt_of_mul_lt_mul_left hh (by omega)
    omega
  · generalize val 4294967296 (S.drop o) / val 4294967296 X = q at *
    have hh : (4294967296 : Int) ^ p * ((u0 * 4294967296 + u1) * 4294967296 + u2) < 4294967296 ^ p * ((q + 1) * (f * 4294967296 + s + 1)) := by
      have a1 : (q + 1) * val 4294967296 (X.take p) ≤ (q + 1) * 4294967296 ^ p := Int.mul_le_mul_of_nonneg_left (by omega) (by omega)
      have a2 : (q + 1) * val 4294967296 X = (q + 1) * val 4294967296 (X.take p) + 4294967296 ^ p * ((q + 1) * (f * 4294967296 + s)) := by rw [hXv]; grind
      have a3 : (4294967296 : Int) ^ p * ((q + 1) * (f * 4294967296 + s + 1)) = 4294967296 ^ p * ((q + 1) * (f * 4294967296 + s)) + (q + 1) * 4294967296 ^ p := by grind
      omega
    exact Int.lt_of_mul_lt_mul_left hh (by omega)
/-- Long division down to place k: Q the quotient's digits, U what is left. -/
structure DivJ (β V : Int) (U0 U Q : List Int) (k : Nat) : Prop where
  dgU : Dg β U
  lenU : U.length = U0.length
  dgQ : Dg β Q
  low : U.take k = U0.take k
  left : val β (U.drop k) < V
  num : val β U0 = val β (U0.take k) + β ^ k * (val β (Q.drop k) * V + val β (U.drop k))
theorem DivJ.start {β V : Int} {U0 Q : List Int} {k : Nat} (h : Dg β U0) (hQ : Dg β Q) (hk : k ≤ U0.length) (hQl : Q.length ≤ k) (hl : val β (U0.drop k) < V) : DivJ β V U0 U0 Q k := by
  refine ⟨h, rfl, hQ, rfl, hl, ?_⟩
  rw [List.drop_of_length_le hQl]
  simp only [val, Int.zero_mul, Int.zero_add]
  exact val_split β U0 hk
theorem DivJ.fits {β V : Int} (hβ : 0 < β) {U0 U Q : List Int} {j : Nat} (h : DivJ β V U0 U Q (j + 1)) (hj : j < U.length) : val β (U.drop j) < β * V := by
  obtain ⟨u, hu⟩ := get_of_lt hj
  rw [val_head β hu]
  have h1 := h.left
  have h2 := h.dgU.get hu
  have h3 : β * val β (U.drop (j + 1)) ≤ β * (V - 1) := Int.mul_le_mul_of_nonneg_left (by omega) (by omega)
  rw [Int.mul_sub] at h3
  omega
theorem DivJ.step {β V : Int} (hβ : 0 < β) {U0 U U' Q : List Int} {j : Nat} {d : Int} (h : DivJ β V U0 U Q (j + 1)) (hj : j < U.length) (hQ : j < Q.length) (hV : 0 < V) (hr : DigR β V U U' j d) : DivJ β V U0 U' (Q.set j d) j := by
  obtain ⟨u, hu⟩ := get_of_lt hj
  have hf := h.fits hβ hj
  have h0 := val_nonneg hβ (h.dgU.drop j)
  have hd : 0 ≤ d ∧ d < β := by
    rw [hr.quo]
    exact ⟨Int.ediv_nonneg h0 (by omega), Int.ediv_lt_of_lt_mul hV hf⟩
  have hlow : U.take j = U0.take j := by
    have := congrArg (List.take j) h.low
    simpa [List.take_take, Nat.min_eq_left (show j ≤ j + 1 by omega)] using this
  have hu0 : U0[j]? = some u := by
    have := congrArg (fun l => l[j]?) h.low
    simp only [List.getElem?_take] at this
    rw [if_pos (by omega), if_pos (by omega)] at this
    rw [← this]; exact hu
  refine ⟨hr.dg, hr.len.trans h.lenU, h.dgQ.set hd, hr.low.trans hlow, ?_, ?_⟩
  · rw [hr.left]; exact Int.emod_lt_of_pos _ hV
  · have hd' : (Q.set j d)[j]? = some d := by simp [hQ]
    have hn := h.num
    rw [take_succ_of hu0, val_snoc, List.length_take, Nat.min_eq_left (by have := h.lenU; omega)] at hn
    rw [val_head β hd', List.drop_set_of_lt (by omega), hr.left]
    have e1 := Int.mul_ediv_add_emod (val β (U.drop j)) V
    rw [← hr.quo] at e1
    have e2 := val_head β hu
    rw [Int.pow_succ] at hn
    grind
theorem DivJ.done {β V : Int} (hβ : 0 < β) {U0 U Q : List Int} (h : DivJ β V U0 U Q 0) : val β Q = val β U0 / V ∧ val β U = val β U0 % V := by
  have hn := h.num
  have hl := h.left
  simp only [List.drop_zero, List.take_zero, Int.pow_zero, Int.one_mul, val, Int.zero_add] at hn hl
  have := quo_eq hn (val_nonneg hβ h.dgU) hl
  exact ⟨this.1.symm, this.2.symm⟩
end Go.Proofs.YthicpakanhhipaaGreatDoor
