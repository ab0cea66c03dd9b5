/- Plain facts on rows of digits in a base (least first): their number, trimming, uniqueness. No program stands in it. -/
namespace Go.Proofs.YthicpakanhhipaaGreatDoor

/-- What a row of digits counts, the least first. -/
def val (β : Int) : List Int → Int
  | [] => 0
  | x :: xs => x + β * val β xs
/-- Each is a digit. -/
def Dg (β : Int) (xs : List Int) : Prop := ∀ x ∈ xs, 0 ≤ x ∧ x < β
/-- Without noughts at the end. -/
def tl : List Int → List Int
  | [] => []
  | x :: xs => if tl xs = [] then (if x = 0 then [] else [x]) else x :: tl xs
/-- Trimmed. -/
def Tr (xs : List Int) : Prop := tl xs = xs

theorem Dg.nil {β : Int} : Dg β [] := fun _ h => by cases h
theorem Dg.cons {β x : Int} {xs : List Int} (h : 0 ≤ x ∧ x < β) (hs : Dg β xs) : Dg β (x :: xs) := fun y hy => by
  rcases List.mem_cons.1 hy with rfl | hy
  · exact h
  · exact hs y hy
theorem Dg.head {β x : Int} {xs : List Int} (h : Dg β (x :: xs)) : 0 ≤ x ∧ x < β := h x (by simp)
theorem Dg.tail {β x : Int} {xs : List Int} (h : Dg β (x :: xs)) : Dg β xs := fun y hy => h y (by simp [hy])
theorem Dg.append {β : Int} {xs ys : List Int} (h : Dg β xs) (h' : Dg β ys) : Dg β (xs ++ ys) := fun y hy => by
  rcases List.mem_append.1 hy with hy | hy
  · exact h y hy
  · exact h' y hy
theorem Dg.left {β : Int} {xs ys : List Int} (h : Dg β (xs ++ ys)) : Dg β xs := fun y hy => h y (by simp [hy])
theorem Dg.right {β : Int} {xs ys : List Int} (h : Dg β (xs ++ ys)) : Dg β ys := fun y hy => h y (by simp [hy])
theorem Dg.take {β : Int} {xs : List Int} (h : Dg β xs) (n : Nat) : Dg β (xs.take n) := fun y hy => h y (List.mem_of_mem_take hy)
theorem Dg.drop {β : Int} {xs : List Int} (h : Dg β xs) (n : Nat) : Dg β (xs.drop n) := fun y hy => h y (List.mem_of_mem_drop hy)
theorem Dg.get {β : Int} {xs : List Int} (h : Dg β xs) {i : Nat} {x : Int} (hx : xs[i]? = some x) : 0 ≤ x ∧ x < β := h x (List.mem_of_getElem? hx)
theorem Dg.set {β : Int} {xs : List Int} (h : Dg β xs) {i : Nat} {x : Int} (hx : 0 ≤ x ∧ x < β) : Dg β (xs.set i x) := fun y hy => by
  rcases List.mem_or_eq_of_mem_set hy with hy | rfl
  · exact h y hy
  · exact hx
theorem Dg.zeros {β : Int} (hβ : 0 < β) (n : Nat) : Dg β (List.replicate n 0) := fun y hy => by
  obtain ⟨_, rfl⟩ := List.mem_replicate.1 hy
  exact ⟨Int.le_refl _, hβ⟩

theorem val_append (β : Int) (xs ys : List Int) : val β (xs ++ ys) = val β xs + β ^ xs.length * val β ys := by
  induction xs with
  | nil => simp [val]
  | cons x xs ih => simp only [List.cons_append, val, ih, List.length_cons, Int.pow_succ]; grind
theorem val_snoc (β : Int) (xs : List Int) (y : Int) : val β (xs ++ [y]) = val β xs + β ^ xs.length * y := by
  rw [val_append]; simp [val]
theorem val_nonneg {β : Int} (hβ : 0 < β) {xs : List Int} (h : Dg β xs) : 0 ≤ val β xs := by
  induction xs with
  | nil => simp [val]
  | cons x xs ih =>
    have h1 := ih h.tail
    have h2 := h.head
    have h3 : 0 ≤ β * val β xs := Int.mul_nonneg (by omega) h1
    simp only [val]; omega
theorem pow_pos' {β : Int} (hβ : 0 < β) (n : Nat) : 0 < β ^ n := Int.pow_pos hβ
theorem val_lt {β : Int} (hβ : 0 < β) {xs : List Int} (h : Dg β xs) : val β xs < β ^ xs.length := by
  induction xs with
  | nil => simp [val]
  | cons x xs ih =>
    have h1 := ih h.tail
    have h2 := h.head
    have h3 : β * (val β xs + 1) ≤ β * β ^ xs.length := Int.mul_le_mul_of_nonneg_left (by omega) (by omega)
    simp only [val, List.length_cons, Int.pow_succ]
    have h4 : β * (val β xs + 1) = β * val β xs + β := by grind
    have h5 : β ^ xs.length * β = β * β ^ xs.length := Int.mul_comm _ _
    omega
theorem val_zeros (β : Int) (n : Nat) : val β (List.replicate n 0) = 0 := by
  induction n with
  | zero => rfl
  | succ n ih => simp [List.replicate_succ, val, ih]

theorem tl_len (xs : List Int) : (tl xs).length ≤ xs.length := by
  induction xs with
  | nil => simp [tl]
  | cons x xs ih => simp only [tl]; split <;> (try split) <;> simp <;> omega
theorem tl_val (β : Int) (xs : List Int) : val β (tl xs) = val β xs := by
  induction xs with
  | nil => rfl
  | cons x xs ih =>
    simp only [tl]
    split
    · rename_i h
      rw [h] at ih
      have ih' : val β xs = 0 := by rw [← ih]; rfl
      split <;> simp [val, ih'] <;> omega
    · simp [val, ih]
theorem tl_Dg {β : Int} {xs : List Int} (h : Dg β xs) : Dg β (tl xs) := by
  induction xs with
  | nil => exact h
  | cons x xs ih =>
    simp only [tl]
    split
    · split
      · exact Dg.nil
      · exact Dg.cons h.head Dg.nil
    · exact Dg.cons h.head (ih h.tail)
theorem tl_idem (xs : List Int) : Tr (tl xs) := by
  unfold Tr
  induction xs with
  | nil => rfl
  | cons x xs ih =>
    simp only [tl]
    split
    · split
      · rfl
      · rename_i h; simp [tl, h]
    · rename_i h; simp only [tl, ih, if_neg h]
theorem tl_snoc_zero (xs : List Int) : tl (xs ++ [0]) = tl xs := by
  induction xs with
  | nil => simp [tl]
  | cons x xs ih => simp only [List.cons_append, tl, ih]
theorem tl_snoc_ne (xs : List Int) {y : Int} (hy : y ≠ 0) : tl (xs ++ [y]) = xs ++ [y] := by
  induction xs with
  | nil => simp [tl, hy]
  | cons x xs ih => simp only [List.cons_append, tl, ih]; simp
theorem tl_take (xs : List Int) : tl xs = xs.take (tl xs).length := by
  induction xs with
  | nil => rfl
  | cons x xs ih =>
    simp only [tl]
    split
    · split <;> simp
    · simp [← ih]
theorem Tr.tail {x : Int} {xs : List Int} (h : Tr (x :: xs)) : Tr xs := by
  unfold Tr at *
  simp only [tl] at h
  split at h
  · rename_i h1
    split at h
    · cases h
    · injection h with _ h; rw [h1, ← h]
  · injection h
theorem Tr.nil : Tr [] := rfl
theorem Tr.zero {β : Int} (hβ : 0 < β) {xs : List Int} (h : Dg β xs) (ht : Tr xs) (hv : val β xs = 0) : xs = [] := by
  induction xs with
  | nil => rfl
  | cons x xs ih =>
    have h1 := val_nonneg hβ h.tail
    have h2 := h.head
    have h3 : 0 ≤ β * val β xs := Int.mul_nonneg (by omega) h1
    simp only [val] at hv
    have h4 : β * val β xs = 0 := by omega
    have h5 : val β xs = 0 := by
      rcases Int.mul_eq_zero.1 h4 with h | h
      · omega
      · exact h
    have h6 := ih h.tail ht.tail h5
    subst h6
    obtain rfl : x = 0 := by omega
    unfold Tr at ht
    simp [tl] at ht
theorem val_inj {β : Int} (hβ : 0 < β) {xs ys : List Int} (h : Dg β xs) (h' : Dg β ys) (ht : Tr xs) (ht' : Tr ys) (hv : val β xs = val β ys) : xs = ys := by
  induction xs generalizing ys with
  | nil => exact (Tr.zero hβ h' ht' hv.symm).symm
  | cons x xs ih =>
    cases ys with
    | nil => exact Tr.zero hβ h ht hv
    | cons y ys =>
      simp only [val] at hv
      have hx := h.head
      have hy := h'.head
      have e1 : (x + β * val β xs) % β = x := by rw [Int.add_mul_emod_self_left]; exact Int.emod_eq_of_lt hx.1 hx.2
      have e2 : (y + β * val β ys) % β = y := by rw [Int.add_mul_emod_self_left]; exact Int.emod_eq_of_lt hy.1 hy.2
      have e3 : x = y := by rw [← e1, ← e2, hv]
      subst e3
      have e4 : β * val β xs = β * val β ys := by omega
      have e5 : val β xs = val β ys := Int.eq_of_mul_eq_mul_left (by omega) e4
      rw [ih h.tail h'.tail ht.tail ht'.tail e5]
/-- The row of a number: digits, trimmed. -/
structure Row (β N : Int) (xs : List Int) : Prop where
  dg : Dg β xs
  tr : Tr xs
  val : val β xs = N
theorem Row.uniq {β N : Int} (hβ : 0 < β) {xs ys : List Int} (h : Row β N xs) (h' : Row β N ys) : xs = ys :=
  val_inj hβ h.dg h'.dg h.tr h'.tr (h.val.trans h'.val.symm)
theorem Row.of_tl {β : Int} {xs : List Int} (h : Dg β xs) : Row β (Go.Proofs.YthicpakanhhipaaGreatDoor.val β xs) (tl xs) := ⟨tl_Dg h, tl_idem xs, tl_val β xs⟩

/-- -1, 0, 1: how two numbers stand. -/
def cmpI (a b : Int) : Int := if a < b then -1 else if a = b then 0 else 1
theorem getElem?_split {xs : List Int} {i : Nat} {x : Int} (h : xs[i]? = some x) : xs = xs.take i ++ x :: xs.drop (i + 1) := by
  obtain ⟨hi, rfl⟩ := List.getElem?_eq_some_iff.1 h
  simp
theorem take_succ_of {xs : List Int} {i : Nat} {x : Int} (h : xs[i]? = some x) : xs.take (i + 1) = xs.take i ++ [x] := by
  rw [List.take_add_one, h]; rfl
theorem drop_of {xs : List Int} {i : Nat} {x : Int} (h : xs[i]? = some x) : xs.drop i = x :: xs.drop (i + 1) := by
  obtain ⟨hi, rfl⟩ := List.getElem?_eq_some_iff.1 h
  simp
theorem lt_of_get {xs : List Int} {i : Nat} {x : Int} (h : xs[i]? = some x) : i < xs.length := (List.getElem?_eq_some_iff.1 h).1
theorem get_of_lt {xs : List Int} {i : Nat} (h : i < xs.length) : ∃ x, xs[i]? = some x := ⟨xs[i], List.getElem?_eq_getElem h⟩
/-- Two rows that are alike from a place on stand as that place's digits do. -/
theorem val_lt_of_digit {β : Int} (hβ : 0 < β) {xs ys : List Int} (hx : Dg β xs) (hy : Dg β ys) (i : Nat) {x y : Int} (ex : xs[i]? = some x) (ey : ys[i]? = some y)
    (hd : xs.drop (i + 1) = ys.drop (i + 1)) (hlt : x < y) : val β xs < val β ys := by
  have l1 := lt_of_get ex
  have l2 := lt_of_get ey
  rw [getElem?_split ex, getElem?_split ey, val_append, val_append, hd]
  simp only [val, List.length_take]
  rw [Nat.min_eq_left (by omega), Nat.min_eq_left (by omega)]
  have a1 := val_lt hβ (hx.take i)
  have a2 := val_nonneg hβ (hy.take i)
  rw [List.length_take, Nat.min_eq_left (by omega)] at a1
  have p := pow_pos' hβ i
  have m : β ^ i * (x + 1) ≤ β ^ i * y := Int.mul_le_mul_of_nonneg_left (by omega) (by omega)
  generalize val β (ys.drop (i + 1)) = V at *
  have e1 : β ^ i * (x + β * V) = β ^ i * (x + 1) - β ^ i + β ^ i * (β * V) := by grind
  have e2 : β ^ i * (y + β * V) = β ^ i * y + β ^ i * (β * V) := by grind
  omega
/-- A shorter trimmed row counts less. -/
theorem val_lt_of_len {β : Int} (hβ : 1 < β) {xs ys : List Int} (hx : Dg β xs) (hy : Dg β ys) (ty : Tr ys) (hl : xs.length < ys.length) : val β xs < val β ys := by
  have a1 := val_lt (by omega) hx
  have hne : ys ≠ [] := by intro e; subst e; simp at hl
  obtain ⟨zs, z, rfl⟩ : ∃ zs z, ys = zs ++ [z] := ⟨ys.dropLast, ys.getLast hne, (List.dropLast_concat_getLast hne).symm⟩
  have hz : z ≠ 0 := by
    rintro rfl
    have := ty
    unfold Tr at this
    rw [tl_snoc_zero] at this
    have l := tl_len zs
    rw [this] at l
    simp at l
    omega
  have hz' := hy z (by simp)
  rw [val_snoc]
  have a2 := val_nonneg (by omega) hy.left
  have p := pow_pos' (show 0 < β by omega) zs.length
  have m : β ^ zs.length * 1 ≤ β ^ zs.length * z := Int.mul_le_mul_of_nonneg_left (by omega) (by omega)
  have q : β ^ xs.length ≤ β ^ zs.length := by
    obtain ⟨d, hd⟩ : ∃ d, zs.length = xs.length + d := ⟨zs.length - xs.length, by simp at hl; omega⟩
    rw [hd, Int.pow_add]
    have p1 := pow_pos' (show 0 < β by omega) xs.length
    have p2 := pow_pos' (show 0 < β by omega) d
    have : β ^ xs.length * 1 ≤ β ^ xs.length * β ^ d := Int.mul_le_mul_of_nonneg_left (by omega) (by omega)
    omega
  omega

/-- Behind i digits of a sum (σ = 1) or a difference (σ = -1) that is written over S, with a carry or borrow cr. -/
structure Carry (β σ : Int) (S X S1 : List Int) (i : Nat) (cr : Int) : Prop where
  dg : Dg β S1
  len : S1.length = S.length
  c01 : 0 ≤ cr ∧ cr ≤ 1
  rest : S1.drop i = S.drop i
  num : val β (S1.take i) + σ * (β ^ i * cr) = val β (S.take i) + σ * val β (X.take i)
theorem Carry.start {β σ : Int} {S X : List Int} (h : Dg β S) : Carry β σ S X S 0 0 := ⟨h, rfl, by omega, rfl, by simp [val]⟩
theorem Carry.at_ {β σ : Int} {S X S1 : List Int} {i : Nat} {cr : Int} (h : Carry β σ S X S1 i cr) : S1[i]? = S[i]? := by
  have := congrArg (fun l => l[0]?) h.rest
  simpa using this
theorem Carry.step {β σ : Int} {S X S1 : List Int} {i : Nat} {cr s x d cr' : Int} (h : Carry β σ S X S1 i cr) (hs : S1[i]? = some s) (hx : X[i]?.getD 0 = x)
    (hd : 0 ≤ d ∧ d < β) (hc : 0 ≤ cr' ∧ cr' ≤ 1) (e : d + σ * (β * cr') = s + σ * (x + cr)) : Carry β σ S X (S1.set i d) (i + 1) cr' := by
  have hi := lt_of_get hs
  have hS : S[i]? = some s := by rw [← h.at_]; exact hs
  have hd' : (S1.set i d)[i]? = some d := by simp [hi]
  refine ⟨h.dg.set hd, by simp [h.len], hc, ?_, ?_⟩
  · rw [List.drop_set_of_lt (by omega)]
    have := congrArg (List.drop 1) h.rest
    simpa [List.drop_drop] using this
  · rw [take_succ_of hd', take_succ_of hS, List.take_set_of_le (by omega), val_snoc, val_snoc]
    have hX : val β (X.take (i + 1)) = val β (X.take i) + β ^ i * x := by
      rcases Nat.lt_or_ge i X.length with hl | hl
      · obtain ⟨y, hy⟩ := get_of_lt hl
        rw [hy] at hx
        obtain rfl : y = x := hx
        rw [take_succ_of hy, val_snoc, List.length_take, Nat.min_eq_left (by omega)]
      · rw [List.getElem?_eq_none hl] at hx
        obtain rfl : (0 : Int) = x := hx
        rw [List.take_of_length_le (by omega), List.take_of_length_le (by omega)]
        omega
    rw [hX, List.length_take, List.length_take, Nat.min_eq_left (by omega), Nat.min_eq_left (by have := lt_of_get hS; omega)]
    have hn := h.num
    have e2 : β ^ i * d + σ * (β ^ (i + 1) * cr') = β ^ i * s + σ * (β ^ i * x) + σ * (β ^ i * cr) := by
      rw [Int.pow_succ]
      have : β ^ i * (d + σ * (β * cr')) = β ^ i * (s + σ * (x + cr)) := by rw [e]
      grind
    have e3 : σ * (val β (X.take i) + β ^ i * x) = σ * val β (X.take i) + σ * (β ^ i * x) := Int.mul_add _ _ _
    omega
theorem Carry.stop {β σ : Int} {S X S1 : List Int} {i : Nat} (h : Carry β σ S X S1 i 0) (hX : X.length ≤ i) (hi : i ≤ S.length) : val β S1 = val β S + σ * val β X := by
  have hn := h.num
  rw [List.take_of_length_le hX] at hn
  have a : val β S1 = val β (S1.take i) + β ^ i * val β (S1.drop i) := by
    conv => lhs; rw [← List.take_append_drop i S1]
    rw [val_append, List.length_take, Nat.min_eq_left (by have := h.len; omega)]
  have b : val β S = val β (S.take i) + β ^ i * val β (S.drop i) := by
    conv => lhs; rw [← List.take_append_drop i S]
    rw [val_append, List.length_take, Nat.min_eq_left (by omega)]
  rw [a, b, h.rest]
  simp only [Int.mul_zero, Int.add_zero] at hn
  omega
/-- A carry never runs out of the row where the sum fits in it. -/
theorem Carry.room {β : Int} (hβ : 0 < β) {S X S1 : List Int} {i : Nat} {cr : Int} (h : Carry β 1 S X S1 i cr) (hX : X.length ≤ i) (hi : i ≤ S.length) (hc : cr ≠ 0) (hfit : val β S + val β X < β ^ S.length) : i < S.length := by
  rcases Nat.lt_or_ge i S.length with hl | hl
  · exact hl
  · obtain rfl : i = S.length := by omega
    obtain rfl : cr = 1 := by have := h.c01; omega
    have hn := h.num
    rw [List.take_of_length_le hX, List.take_of_length_le (Nat.le_refl _), List.take_of_length_le (by have := h.len; omega)] at hn
    have := val_nonneg hβ h.dg
    omega
/-- A borrow never runs out of the row where what is taken is not more. -/
theorem Carry.roomDown {β : Int} (hβ : 0 < β) {S X S1 : List Int} {i : Nat} {cr : Int} (h : Carry β (-1) S X S1 i cr) (hX : X.length ≤ i) (hi : i ≤ S.length) (hc : cr ≠ 0) (hfit : val β X ≤ val β S) : i < S.length := by
  rcases Nat.lt_or_ge i S.length with hl | hl
  · exact hl
  · obtain rfl : i = S.length := by omega
    obtain rfl : cr = 1 := by have := h.c01; omega
    have hn := h.num
    rw [List.take_of_length_le hX, List.take_of_length_le (Nat.le_refl _), List.take_of_length_le (by have := h.len; omega)] at hn
    have := val_lt hβ h.dg
    rw [h.len] at this
    omega
theorem add_digit {β s x cr : Int} (hβ : 1 < β) (hs : 0 ≤ s ∧ s < β) (hx : 0 ≤ x ∧ x < β) (hc : 0 ≤ cr ∧ cr ≤ 1) :
    (0 ≤ (s + x + cr) % β ∧ (s + x + cr) % β < β) ∧ (0 ≤ (s + x + cr) / β ∧ (s + x + cr) / β ≤ 1) ∧ (s + x + cr) % β + 1 * (β * ((s + x + cr) / β)) = s + 1 * (x + cr) := by
  have h1 := Int.emod_nonneg (s + x + cr) (show β ≠ 0 by omega)
  have h2 := Int.emod_lt_of_pos (s + x + cr) (show 0 < β by omega)
  have h3 := Int.emod_add_mul_ediv (s + x + cr) β
  have h4 : 0 ≤ (s + x + cr) / β := Int.ediv_nonneg (by omega) (by omega)
  have h5 : (s + x + cr) / β < 2 := Int.ediv_lt_of_lt_mul (by omega) (by omega)
  exact ⟨⟨h1, h2⟩, ⟨h4, by omega⟩, by omega⟩
theorem sub_digit {s x cr d b : Int} (_hs : 0 ≤ s ∧ s < 4294967296) (_hx : 0 ≤ x ∧ x < 4294967296) (_hc : 0 ≤ cr ∧ cr ≤ 1) (hd : d = (s - x - cr) % 4294967296) (hb : b = if s < x + cr then 1 else 0) :
    (0 ≤ d ∧ d < 4294967296) ∧ (0 ≤ b ∧ b ≤ 1) ∧ d + -1 * (4294967296 * b) = s + -1 * (x + cr) := by
  subst hd; subst hb; split <;> omega
theorem Row.len_le {β N : Int} (hβ : 1 < β) {xs : List Int} (h : Row β N xs) {k : Nat} (hN : N < β ^ k) : xs.length ≤ k := by
  rcases Nat.lt_or_ge k xs.length with hl | hl
  · have := val_lt_of_len hβ (xs := List.replicate k 0) (ys := xs) (Dg.zeros (by omega) k) h.dg h.tr (by simpa using hl)
    have hne : xs ≠ [] := by intro e; subst e; simp at hl
    obtain ⟨zs, z, rfl⟩ : ∃ zs z, xs = zs ++ [z] := ⟨xs.dropLast, xs.getLast hne, (List.dropLast_concat_getLast hne).symm⟩
    have hz : z ≠ 0 := by
      rintro rfl
      have h1 := h.tr
      unfold Tr at h1
      rw [tl_snoc_zero] at h1
      have h2 := tl_len zs
      rw [h1] at h2
      simp at h2
      omega
    have hz' := h.dg z (by simp)
    have hv := h.val
    rw [val_snoc] at hv
    have p0 := val_nonneg (by omega) h.dg.left
    have p1 := pow_pos' (show 0 < β by omega) zs.length
    have m : β ^ zs.length * 1 ≤ β ^ zs.length * z := Int.mul_le_mul_of_nonneg_left (by omega) (by omega)
    obtain ⟨d, hd⟩ : ∃ d, zs.length = k + d := ⟨zs.length - k, by simp at hl; omega⟩
    have p2 := pow_pos' (show 0 < β by omega) d
    have p3 := pow_pos' (show 0 < β by omega) k
    have q : β ^ k * 1 ≤ β ^ k * β ^ d := Int.mul_le_mul_of_nonneg_left (by omega) (by omega)
    rw [hd, Int.pow_add] at hv m
    omega
  · exact hl
/-- Behind i digits of a product with a digit. -/
structure Prod (β m : Int) (X P : List Int) (i : Nat) (h : Int) : Prop where
  dg : Dg β P
  high : 0 ≤ h ∧ h < β
  num : val β (P.take i) + β ^ i * h = m * val β (X.take i)
theorem mul_digit {x m h : Int} (hx : 0 ≤ x ∧ x < 4294967296) (hm : 0 ≤ m ∧ m < 4294967296) (hh : 0 ≤ h ∧ h < 4294967296) :
    0 ≤ x * m ∧ x * m ≤ 18446744065119617025 ∧ (0 ≤ (x * m + h) % 4294967296 ∧ (x * m + h) % 4294967296 < 4294967296) ∧
    (0 ≤ x * m / 4294967296 + (x * m % 4294967296 + h) / 4294967296 ∧ x * m / 4294967296 + (x * m % 4294967296 + h) / 4294967296 < 4294967296) ∧
    (x * m + h) % 4294967296 + 4294967296 * (x * m / 4294967296 + (x * m % 4294967296 + h) / 4294967296) = x * m + h := by
  have h0 : 0 ≤ x * m := Int.mul_nonneg hx.1 hm.1
  have h1 : x * m ≤ 4294967295 * 4294967295 := Int.mul_le_mul (by omega) (by omega) hm.1 (by omega)
  omega
theorem Prod.start {β m : Int} {X P : List Int} (hβ : 0 < β) (h : Dg β P) : Prod β m X P 0 0 := ⟨h, ⟨Int.le_refl _, hβ⟩, by simp [val]⟩
theorem Prod.step {β m : Int} {X P : List Int} {i : Nat} {h x d h' : Int} (hp : Prod β m X P i h) (hx : X[i]? = some x) (hi : i < P.length) (hd : 0 ≤ d ∧ d < β) (hh : 0 ≤ h' ∧ h' < β) (e : d + β * h' = x * m + h) :
    Prod β m X (P.set i d) (i + 1) h' := by
  have hd' : (P.set i d)[i]? = some d := by simp [hi]
  refine ⟨hp.dg.set hd, hh, ?_⟩
  rw [take_succ_of hd', take_succ_of hx, List.take_set_of_le (by omega), val_snoc, val_snoc, List.length_take, List.length_take, Nat.min_eq_left (by omega), Nat.min_eq_left (by have := lt_of_get hx; omega)]
  have hn := hp.num
  rw [Int.pow_succ]
  have : β ^ i * (d + β * h') = β ^ i * (x * m + h) := by rw [e]
  grind
theorem Prod.stop {β m : Int} {X P : List Int} {n : Nat} {h : Int} (hp : Prod β m X P n h) (hX : X.length = n) (hP : P.length = n + 1) : val β (P.set n h) = m * val β X ∧ Dg β (P.set n h) := by
  refine ⟨?_, hp.dg.set hp.high⟩
  have hn := hp.num
  rw [List.take_of_length_le (l := X) (by omega)] at hn
  have hd' : (P.set n h)[n]? = some h := by simp [hP]
  rw [getElem?_split hd', val_append, List.take_set_of_le (by omega), List.drop_of_length_le (by simp; omega), List.length_take, Nat.min_eq_left (by omega), ← hn]
  simp [val]
/-- A division by a digit, down to place k. -/
structure Quo (β d : Int) (X Q : List Int) (k : Nat) (r : Int) : Prop where
  dg : Dg β Q
  rest : 0 ≤ r ∧ r < d
  num : val β (X.drop k) = d * val β (Q.drop k) + r
theorem Quo.start {β d : Int} {X Q : List Int} {n : Nat} (hd : 0 < d) (h : Dg β Q) (hX : X.length ≤ n) (hQ : Q.length ≤ n) : Quo β d X Q n 0 :=
  ⟨h, ⟨Int.le_refl _, hd⟩, by rw [List.drop_of_length_le hX, List.drop_of_length_le hQ]; simp [val]⟩
theorem Quo.step {β d : Int} {X Q : List Int} {j : Nat} {r x : Int} (h : Quo β d X Q (j + 1) r) (hx : X[j]? = some x) (hj : j < Q.length) (hq : 0 ≤ (r * β + x) / d ∧ (r * β + x) / d < β) :
    Quo β d X (Q.set j ((r * β + x) / d)) j ((r * β + x) % d) := by
  have hd : 0 < d := by have := h.rest; omega
  refine ⟨h.dg.set hq, ⟨Int.emod_nonneg _ (by omega), Int.emod_lt_of_pos _ hd⟩, ?_⟩
  have hd' : (Q.set j ((r * β + x) / d))[j]? = some ((r * β + x) / d) := by simp [hj]
  rw [drop_of hx, drop_of hd', List.drop_set_of_lt (by omega)]
  simp only [val]
  rw [h.num]
  have := Int.emod_add_mul_ediv (r * β + x) d
  grind
/-- So many rows of M digits fit into M + 2. -/
theorem sum_fit {M i : Nat} {S x : Int} (hi : (i : Int) + 1 ≤ 9223372036854775807) (hS : S ≤ (i : Int) * 4294967296 ^ M) (hx : x < 4294967296 ^ M) :
    S + x ≤ ((i : Int) + 1) * 4294967296 ^ M ∧ S + x < 4294967296 ^ (M + 2) := by
  have p := pow_pos' (show (0 : Int) < 4294967296 by decide) M
  rw [Int.pow_add]
  generalize (4294967296 : Int) ^ M = Y at *
  have e1 : ((i : Int) + 1) * Y = (i : Int) * Y + Y := by rw [Int.add_mul]; omega
  have e2 : ((i : Int) + 1) * Y ≤ 9223372036854775807 * Y := Int.mul_le_mul_of_nonneg_right hi (by omega)
  have e3 : (4294967296 : Int) ^ 2 = 18446744073709551616 := by decide
  rw [e3]
  omega
theorem pow_mono {β : Int} (hβ : 0 < β) {a b : Nat} (h : a ≤ b) : β ^ a ≤ β ^ b := by
  obtain ⟨d, rfl⟩ : ∃ d, b = a + d := ⟨b - a, by omega⟩
  rw [Int.pow_add]
  have p1 := pow_pos' hβ a
  have p2 := pow_pos' hβ d
  have : β ^ a * 1 ≤ β ^ a * β ^ d := Int.mul_le_mul_of_nonneg_left (by omega) (by omega)
  omega
theorem two_split {d : Nat} (hd : d ≤ 32) : (2 : Int) ^ d * 2 ^ (32 - d) = 4294967296 := by
  rw [← Int.pow_add, show d + (32 - d) = 32 by omega]; decide
theorem pow_limb (s : Nat) : (2 : Int) ^ s = 4294967296 ^ (s / 32) * 2 ^ (s % 32) := by
  rw [show (4294967296 : Int) = 2 ^ 32 by decide, ← Int.pow_mul, ← Int.pow_add, show 32 * (s / 32) + s % 32 = s by omega]
/-- A digit's high part: what is shifted out of it to the left is what is left of it when it is shifted to the right. -/
theorem shift_high {x : Int} {d : Nat} (hd : d ≤ 32) : x * 2 ^ d / 4294967296 = x / 2 ^ (32 - d) := by
  have p : (0 : Int) < 2 ^ d := pow_pos' (by decide) d
  rw [← two_split hd, Int.mul_comm x, Int.mul_ediv_mul_of_pos _ _ p]
theorem shift_split {x : Int} {d : Nat} (hd : d ≤ 32) : x * 2 ^ d % 4294967296 + 4294967296 * (x / 2 ^ (32 - d)) = x * 2 ^ d := by
  rw [← shift_high hd]; exact Int.emod_add_mul_ediv _ _
theorem high_small {x : Int} {d : Nat} (hd : d ≤ 32) (hx : 0 ≤ x ∧ x < 4294967296) : 0 ≤ x / 2 ^ (32 - d) ∧ x / 2 ^ (32 - d) < 2 ^ d := by
  have p : (0 : Int) < 2 ^ (32 - d) := pow_pos' (by decide) _
  refine ⟨Int.ediv_nonneg hx.1 (by omega), Int.ediv_lt_of_lt_mul p ?_⟩
  rw [two_split hd]; exact hx.2
theorem pow_le_limb {d : Nat} (hd : d ≤ 32) : (2 : Int) ^ d ≤ 4294967296 := by
  have := pow_mono (show (0 : Int) < 2 by decide) hd
  exact Int.le_trans this (by decide)
/-- What is joined: low digits, and a multiple of 2 to the d. -/
theorem join_small {y x : Int} {d : Nat} (hd : d ≤ 32) (hy : 0 ≤ y ∧ y < 2 ^ d) (_hx : 0 ≤ x) : 0 ≤ y + x * 2 ^ d % 4294967296 ∧ y + x * 2 ^ d % 4294967296 < 4294967296 := by
  have h1 := Int.emod_nonneg (x * 2 ^ d) (show (4294967296 : Int) ≠ 0 by decide)
  refine ⟨by omega, ?_⟩
  have p : (0 : Int) < 2 ^ d := pow_pos' (by decide) d
  have e : x * 2 ^ d % 4294967296 = 2 ^ d * (x % 2 ^ (32 - d)) := by
    rw [← two_split hd, Int.mul_comm x, Int.mul_emod_mul_of_pos _ _ p]
  have h2 := Int.emod_lt_of_pos x (show (0 : Int) < 2 ^ (32 - d) from pow_pos' (by decide) _)
  have h3 : 2 ^ d * (x % 2 ^ (32 - d) + 1) ≤ 2 ^ d * 2 ^ (32 - d) := Int.mul_le_mul_of_nonneg_left (by omega) (by omega)
  rw [two_split hd, Int.mul_add] at h3
  omega
/-- Behind i digits of a shift to the left by L limbs and d binary digits. -/
structure Up (d L : Nat) (X S : List Int) (i : Nat) (c : Int) : Prop where
  dg : Dg 4294967296 S
  here : S[i + L]? = some c
  small : 0 ≤ c ∧ c < 2 ^ d
  num : val 4294967296 (S.take (i + L)) + 4294967296 ^ (i + L) * c = 4294967296 ^ L * 2 ^ d * val 4294967296 (X.take i)
theorem Up.start {d L n : Nat} {X : List Int} : Up d L X (List.replicate (n + L + 1) 0) 0 0 := by
  refine ⟨Dg.zeros (by decide) _, ?_, ⟨Int.le_refl _, pow_pos' (by decide) _⟩, ?_⟩
  · rw [List.getElem?_replicate, if_pos (by omega)]
  · rw [List.take_replicate, val_zeros]; simp [val]
theorem Up.step {d L : Nat} {X S : List Int} {i : Nat} {c x : Int} (h : Up d L X S i c) (hd : d ≤ 32) (hx : X[i]? = some x) (hxd : 0 ≤ x ∧ x < 4294967296) (hl : i + L + 1 < S.length) :
    Up d L X ((S.set (i + L) (c + x * 2 ^ d % 4294967296)).set (i + L + 1) (x / 2 ^ (32 - d))) (i + 1) (x / 2 ^ (32 - d)) := by
  have hs := high_small hd hxd
  have hj := join_small hd h.small hxd.1
  have hp := pow_le_limb hd
  refine ⟨(h.dg.set hj).set (by omega), ?_, hs, ?_⟩
  · rw [show i + 1 + L = i + L + 1 by omega]; simp [hl]
  · rw [show i + 1 + L = i + L + 1 by omega, List.take_set_of_le (Nat.le_refl _)]
    have e1 : (S.set (i + L) (c + x * 2 ^ d % 4294967296))[i + L]? = some (c + x * 2 ^ d % 4294967296) := List.getElem?_set_self (by omega)
    rw [take_succ_of e1, List.take_set_of_le (Nat.le_refl _), val_snoc, take_succ_of hx, val_snoc, List.length_take, List.length_take, Nat.min_eq_left (by omega), Nat.min_eq_left (by have := lt_of_get hx; omega)]
    have hn := h.num
    have hsp := shift_split (x := x) hd
    generalize x * 2 ^ d % 4294967296 = lo at *
    generalize x / 2 ^ (32 - d) = hi at *
    have e2 : (4294967296 : Int) ^ (i + L) * (lo + 4294967296 * hi) = 4294967296 ^ (i + L) * (x * 2 ^ d) := by rw [hsp]
    rw [Int.pow_succ, Int.pow_add] at *
    grind
theorem Up.stop {d L n : Nat} {X S : List Int} {c : Int} (h : Up d L X S n c) (hX : X.length = n) (hS : S.length = n + L + 1) : val 4294967296 S = 4294967296 ^ L * 2 ^ d * val 4294967296 X := by
  have hn := h.num
  rw [List.take_of_length_le (l := X) (by omega)] at hn
  have := val_snoc 4294967296 (S.take (n + L)) c
  rw [← take_succ_of h.here, List.take_of_length_le (by omega), List.length_take, Nat.min_eq_left (by omega), hn] at this
  exact this
/-- Behind i digits of a shift to the right by d binary digits. -/
structure Down (d : Nat) (Y S : List Int) (i : Nat) : Prop where
  dg : Dg 4294967296 S
  last : ∀ j, i = j + 1 → ∃ y s, Y[j]? = some y ∧ S[j]? = some s ∧ s = y / 2 ^ d
  num : val 4294967296 (S.take i) = val 4294967296 (Y.take i) / 2 ^ d
theorem Down.start {d n : Nat} {Y : List Int} : Down d Y (List.replicate n 0) 0 := ⟨Dg.zeros (by decide) _, fun j h => by omega, by simp [val]⟩
theorem low_small {y : Int} {d : Nat} (hy : 0 ≤ y ∧ y < 4294967296) : 0 ≤ y / 2 ^ d ∧ y / 2 ^ d < 4294967296 := by
  have p : (0 : Int) < 2 ^ d := pow_pos' (by decide) d
  refine ⟨Int.ediv_nonneg hy.1 (by omega), Int.ediv_lt_of_lt_mul p ?_⟩
  have : (4294967296 : Int) * 1 ≤ 4294967296 * 2 ^ d := Int.mul_le_mul_of_nonneg_left (by omega) (by omega)
  omega
theorem Down.first {d : Nat} {Y S : List Int} {y : Int} (h : Down d Y S 0) (hy : Y[0]? = some y) (hyd : 0 ≤ y ∧ y < 4294967296) (hl : 0 < S.length) : Down d Y (S.set 0 (y / 2 ^ d)) 1 := by
  have hn := low_small (d := d) hyd
  have e1 : (S.set 0 (y / 2 ^ d))[0]? = some (y / 2 ^ d) := by simp [hl]
  refine ⟨h.dg.set hn, fun j hj => ?_, ?_⟩
  · obtain rfl : j = 0 := by omega
    exact ⟨y, _, hy, e1, rfl⟩
  · rw [take_succ_of e1, take_succ_of hy]; simp [val]
theorem Down.next {d : Nat} {Y S : List Int} {j : Nat} {y s : Int} (hd : d ≤ 32) (h : Down d Y S (j + 1)) (hy : Y[j + 1]? = some y) (hyd : 0 ≤ y ∧ y < 4294967296) (hs : S[j]? = some s) (hYd : Dg 4294967296 Y) (hl : j + 1 < S.length) :
    (0 ≤ s ∧ s < 2 ^ (32 - d)) ∧ Down d Y ((S.set (j + 1) (y / 2 ^ d)).set j (s + y * 2 ^ (32 - d) % 4294967296)) (j + 1 + 1) := by
  obtain ⟨y0, s0, hy0, hs0, e0⟩ := h.last j rfl
  rw [hs] at hs0
  injection hs0 with hs0
  subst hs0
  have hd' : 32 - d ≤ 32 := by omega
  have hsm : 0 ≤ s ∧ s < 2 ^ (32 - d) := by
    have := high_small hd' (hYd.get hy0)
    rw [show 32 - (32 - d) = d by omega] at this
    rw [e0]; exact this
  refine ⟨hsm, (h.dg.set (low_small hyd)).set (join_small hd' hsm hyd.1), fun i hi => ?_, ?_⟩
  · obtain rfl : i = j + 1 := by omega
    refine ⟨y, _, hy, ?_, rfl⟩
    rw [List.getElem?_set_ne (by omega)]; simp [hl]
  · have e1 : ((S.set (j + 1) (y / 2 ^ d)).set j (s + y * 2 ^ (32 - d) % 4294967296))[j + 1]? = some (y / 2 ^ d) := by rw [List.getElem?_set_ne (by omega)]; simp [hl]
    have e2 : ((S.set (j + 1) (y / 2 ^ d)).set j (s + y * 2 ^ (32 - d) % 4294967296))[j]? = some (s + y * 2 ^ (32 - d) % 4294967296) := List.getElem?_set_self (by rw [List.length_set]; omega)
    have hn := h.num
    rw [take_succ_of hs, val_snoc] at hn
    rw [take_succ_of e1, val_snoc, take_succ_of e2, val_snoc, take_succ_of hy, val_snoc, List.take_set_of_le (Nat.le_refl _), List.take_set_of_le (by omega)]
    simp only [List.length_append, List.length_take, List.length_set, List.length_cons, List.length_nil]
    simp only [List.length_take] at hn
    rw [Nat.min_eq_left (by omega)] at hn
    rw [Nat.min_eq_left (by omega), Nat.min_eq_left (by have := lt_of_get hy; omega)]
    have hsp := shift_split (x := y) hd'
    rw [show 32 - (32 - d) = d by omega] at hsp
    have e3 : (4294967296 : Int) ^ (j + 1) * y = 2 ^ d * (4294967296 ^ j * (y * 2 ^ (32 - d))) := by
      rw [Int.pow_succ]
      have := two_split hd
      grind
    have p : (0 : Int) < 2 ^ d := pow_pos' (by decide) d
    rw [e3, Int.add_mul_ediv_left _ _ (by omega), ← hn]
    generalize y * 2 ^ (32 - d) % 4294967296 = lo at *
    generalize y / 2 ^ d = hi at *
    have e4 : (4294967296 : Int) ^ j * (lo + 4294967296 * hi) = 4294967296 ^ j * (y * 2 ^ (32 - d)) := by rw [hsp]
    rw [Int.pow_succ]
    grind
theorem val_div {X : List Int} (hx : Dg 4294967296 X) {L : Nat} (hL : L ≤ X.length) (d : Nat) : val 4294967296 (X.drop L) / 2 ^ d = val 4294967296 X / (4294967296 ^ L * 2 ^ d) := by
  have e : val 4294967296 X = val 4294967296 (X.take L) + 4294967296 ^ L * val 4294967296 (X.drop L) := by
    conv => lhs; rw [← List.take_append_drop L X]
    rw [val_append, List.length_take, Nat.min_eq_left hL]
  have p : (0 : Int) < 4294967296 ^ L := pow_pos' (by decide) L
  have h1 := val_lt (by decide) (hx.take L)
  rw [List.length_take, Nat.min_eq_left hL] at h1
  have h2 := val_nonneg (by decide) (hx.take L)
  rw [← Int.ediv_ediv_of_nonneg (by omega), e, Int.add_mul_ediv_left _ _ (by omega), Int.ediv_eq_zero_of_lt h2 h1, Int.zero_add]
theorem val_div_zero {X : List Int} (hx : Dg 4294967296 X) {s : Nat} (hs : X.length ≤ s / 32) : val 4294967296 X / 2 ^ s = 0 := by
  refine Int.ediv_eq_zero_of_lt (val_nonneg (by decide) hx) (Int.lt_of_lt_of_le (val_lt (by decide) hx) ?_)
  rw [show (4294967296 : Int) = 2 ^ 32 by decide, ← Int.pow_mul]
  exact pow_mono (by decide) (by omega)
/-- b is how many binary digits N has. -/
def IsBits (N : Int) (b : Nat) : Prop := (N = 0 ∧ b = 0) ∨ (0 < b ∧ 2 ^ (b - 1) ≤ N ∧ N < 2 ^ b)
theorem IsBits.uniq {N : Int} {b b' : Nat} (h : IsBits N b) (h' : IsBits N b') : b = b' := by
  have key : ∀ {b b' : Nat}, IsBits N b → IsBits N b' → ¬ b < b' := by
    intro b b' h h' hlt
    rcases h' with ⟨_, h0⟩ | ⟨_, h1, h2⟩
    · omega
    · have p : (0 : Int) < 2 ^ (b' - 1) := pow_pos' (by decide) _
      rcases h with ⟨h3, h4⟩ | ⟨_, h3, h4⟩
      · omega
      · have := pow_mono (show (0 : Int) < 2 by decide) (show b ≤ b' - 1 by omega)
        omega
  have h1 := key h h'
  have h2 := key h' h
  omega
/-- A row's binary digits are its last digit's, and all of the others. -/
theorem IsBits.row {k : Nat} {β : Int} (hβ : β = 2 ^ k) {zs : List Int} {z : Int} {b : Nat} (hz : Dg β zs) (h0 : 0 < z) (h : IsBits z b) : IsBits (val β (zs ++ [z])) (k * zs.length + b) := by
  have hb : 0 < β := by rw [hβ]; exact pow_pos' (by decide) _
  have v0 := val_nonneg hb hz
  have v1 := val_lt hb hz
  rw [val_snoc]
  rcases h with ⟨h1, _⟩ | ⟨h1, h2, h3⟩
  · omega
  · have e : β ^ zs.length = 2 ^ (k * zs.length) := by rw [hβ, ← Int.pow_mul]
    rw [e] at v1 ⊢
    have p : (0 : Int) < 2 ^ (k * zs.length) := pow_pos' (by decide) _
    have m1 : (2 : Int) ^ (k * zs.length) * 2 ^ (b - 1) ≤ 2 ^ (k * zs.length) * z := Int.mul_le_mul_of_nonneg_left h2 (by omega)
    have m2 : (2 : Int) ^ (k * zs.length) * (z + 1) ≤ 2 ^ (k * zs.length) * 2 ^ b := Int.mul_le_mul_of_nonneg_left (by omega) (by omega)
    rw [← Int.pow_add] at m1 m2
    rw [Int.mul_add] at m2
    refine .inr ⟨by omega, ?_, ?_⟩
    · rw [show k * zs.length + b - 1 = k * zs.length + (b - 1) by omega]; omega
    · omega
/-- A number's binary digits are those of its j-th part of 2, and j. -/
theorem IsBits.high {t : Int} {j b : Nat} (h1 : 0 < t / 2 ^ j) (h : IsBits (t / 2 ^ j) b) : IsBits t (b + j) := by
  have p : (0 : Int) < 2 ^ j := pow_pos' (by decide) _
  rcases h with ⟨h2, _⟩ | ⟨h2, h3, h4⟩
  · omega
  · have e := Int.emod_add_mul_ediv t (2 ^ j)
    have r0 := Int.emod_nonneg t (show (2 : Int) ^ j ≠ 0 by omega)
    have r1 := Int.emod_lt_of_pos t p
    generalize t / 2 ^ j = q at *
    generalize t % 2 ^ j = r at *
    have m1 : (2 : Int) ^ j * 2 ^ (b - 1) ≤ 2 ^ j * q := Int.mul_le_mul_of_nonneg_left h3 (by omega)
    have m2 : (2 : Int) ^ j * (q + 1) ≤ 2 ^ j * 2 ^ b := Int.mul_le_mul_of_nonneg_left (by omega) (by omega)
    rw [← Int.pow_add] at m1 m2
    rw [Int.mul_add] at m2
    refine .inr ⟨by omega, ?_, ?_⟩
    · rw [show b + j - 1 = j + (b - 1) by omega]; omega
    · rw [show b + j = j + b by omega]; omega
theorem IsBits.one : IsBits 1 1 := .inr ⟨by decide, by decide, by decide⟩
/-- How many binary digits half of a byte has. -/
def halfL : List Int := [0, 1] ++ List.replicate 2 2 ++ List.replicate 4 3 ++ List.replicate 8 4 ++ List.replicate 16 5 ++ List.replicate 32 6 ++ List.replicate 64 7
theorem halfL_ok : ∀ h : Nat, h < 128 → 0 ≤ halfL.getD h 0 ∧ halfL.getD h 0 ≤ 7 ∧ (h = 0 → halfL.getD h 0 = 0) ∧ (0 < h → 0 < halfL.getD h 0 ∧ (2 : Int) ^ ((halfL.getD h 0).toNat - 1) ≤ h ∧ (h : Int) < 2 ^ (halfL.getD h 0).toNat) := by
  decide +kernel
theorem byte_bits {t : Nat} (h0 : 0 < t) (h1 : t ≤ 255) : IsBits (t : Int) (1 + (halfL.getD (t / 2) 0).toNat) := by
  obtain ⟨a, b, c, d⟩ := halfL_ok (t / 2) (by omega)
  rcases Nat.eq_zero_or_pos (t / 2) with hz | hz
  · rw [c hz]
    obtain rfl : t = 1 := by omega
    exact IsBits.one
  · obtain ⟨d1, d2, d3⟩ := d hz
    have e : (t : Int) / 2 ^ 1 = ((t / 2 : Nat) : Int) := by omega
    have := IsBits.high (t := (t : Int)) (j := 1) (b := (halfL.getD (t / 2) 0).toNat) (by rw [e]; omega) (by rw [e]; exact .inr ⟨by omega, d2, d3⟩)
    rw [Nat.add_comm]
    exact this
/-- In the midst of the count: n so far, t still to be counted. -/
structure BitsI (N : Int) (n0 n t : Nat) : Prop where
  pos : 0 < t
  bound : n + t ≤ n0
  num : ∀ b, IsBits (t : Int) b → IsBits N (n + b)
theorem BitsI.step {N : Int} {n0 n t : Nat} (h : BitsI N n0 n t) (ht : 255 < t) : BitsI N n0 (n + 8) (t / 256) := by
  refine ⟨by omega, by have := h.bound; omega, fun b hb => ?_⟩
  have e : ((t / 256 : Nat) : Int) = (t : Int) / 2 ^ 8 := by omega
  rw [e] at hb
  have := h.num _ (IsBits.high (by omega) hb)
  rw [show n + 8 + b = n + (b + 8) by omega]
  exact this
theorem Tr.last {xs : List Int} (h : Tr xs) (hne : xs ≠ []) : ∃ zs z, xs = zs ++ [z] ∧ z ≠ 0 ∧ xs[xs.length - 1]? = some z := by
  obtain ⟨zs, z, rfl⟩ : ∃ zs z, xs = zs ++ [z] := ⟨xs.dropLast, xs.getLast hne, (List.dropLast_concat_getLast hne).symm⟩
  refine ⟨zs, z, rfl, ?_, by simp⟩
  rintro rfl
  unfold Tr at h
  rw [tl_snoc_zero] at h
  have := tl_len zs
  rw [h] at this
  simp at this
  omega
/-- How cmpI stands by the digits. -/
theorem cmpI_lt {a b : Int} (h : a < b) : cmpI a b = -1 := by unfold cmpI; rw [if_pos h]
theorem cmpI_gt {a b : Int} (h : b < a) : cmpI a b = 1 := by unfold cmpI; rw [if_neg (by omega), if_neg (by omega)]
theorem cmpI_eq {a b : Int} (h : a = b) : cmpI a b = 0 := by unfold cmpI; rw [if_neg (by omega), if_pos h]

/-- The first k digits are trimmed as all are. -/
def TlTake (xs : List Int) (k : Nat) : Prop := tl (xs.take k) = tl xs
theorem TlTake.start {xs : List Int} {n : Nat} (h : xs.length = n) : TlTake xs n := by unfold TlTake; rw [List.take_of_length_le (by omega)]
theorem TlTake.down {xs : List Int} {j : Nat} (h : TlTake xs (j + 1)) (hx : xs[j]? = some 0) : TlTake xs j := by
  unfold TlTake at *; rw [take_succ_of hx, tl_snoc_zero] at h; exact h
theorem TlTake.zero {xs : List Int} (h : TlTake xs 0) : tl xs = [] := by unfold TlTake at h; simpa [tl] using h.symm
theorem TlTake.stop {xs : List Int} {j : Nat} {x : Int} (h : TlTake xs (j + 1)) (hx : xs[j]? = some x) (h0 : x ≠ 0) : tl xs = xs.take (j + 1) := by
  unfold TlTake at h; rw [take_succ_of hx, tl_snoc_ne _ h0] at h; rw [take_succ_of hx, h]
theorem Tr.cons {x : Int} {xs : List Int} (h : Tr xs) (hx : xs = [] → x ≠ 0) : Tr (x :: xs) := by
  unfold Tr at *
  simp only [tl, h]
  split
  · rename_i h0
    rw [if_neg (hx h0), h0]
  · rfl
theorem Tr.single {x : Int} (h : Tr [x]) : x ≠ 0 := by
  rintro rfl
  simp [Tr, tl] at h
/-- From place k on both rows are alike, noughts behind each. -/
def AlikeP (xs ys : List Int) (k : Nat) : Prop := ∀ i, k ≤ i → xs[i]?.getD 0 = ys[i]?.getD 0
/-- With noughts up to M. -/
def pad (xs : List Int) (M : Nat) : List Int := xs ++ List.replicate (M - xs.length) 0
theorem pad_val (β : Int) (xs : List Int) (M : Nat) : val β (pad xs M) = val β xs := by
  unfold pad
  rw [val_append, val_zeros]; simp
theorem pad_dg {β : Int} (hβ : 0 < β) {xs : List Int} (h : Dg β xs) (M : Nat) : Dg β (pad xs M) := h.append (Dg.zeros hβ _)
theorem pad_len {xs : List Int} {M : Nat} (h : xs.length ≤ M) : (pad xs M).length = M := by simp [pad]; omega
theorem pad_get {xs : List Int} {M i : Nat} (h : xs.length ≤ M) (hi : i < M) : (pad xs M)[i]? = some (xs[i]?.getD 0) := by
  unfold pad
  rcases Nat.lt_or_ge i xs.length with hl | hl
  · rw [List.getElem?_append_left hl, List.getElem?_eq_getElem hl]; rfl
  · rw [List.getElem?_append_right hl, List.getElem?_eq_none hl, List.getElem?_replicate, if_pos (by omega)]; rfl
theorem pad_drop {xs ys : List Int} {M k : Nat} (hx : xs.length ≤ M) (hy : ys.length ≤ M) (h : AlikeP xs ys k) : (pad xs M).drop k = (pad ys M).drop k := by
  refine List.ext_getElem? fun i => ?_
  rw [List.getElem?_drop, List.getElem?_drop]
  rcases Nat.lt_or_ge (k + i) M with hl | hl
  · rw [pad_get hx hl, pad_get hy hl, h _ (by omega)]
  · rw [List.getElem?_eq_none (by rw [pad_len hx]; omega), List.getElem?_eq_none (by rw [pad_len hy]; omega)]
theorem AlikeP.eq {β : Int} {xs ys : List Int} (h : AlikeP xs ys 0) : val β xs = val β ys := by
  have := pad_drop (M := max xs.length ys.length) (by omega) (by omega) h
  simp only [List.drop_zero] at this
  rw [← pad_val β xs (max xs.length ys.length), this, pad_val]
theorem AlikeP.lt {β : Int} (hβ : 0 < β) {xs ys : List Int} (hx : Dg β xs) (hy : Dg β ys) {i : Nat} (h : AlikeP xs ys (i + 1)) (hlt : xs[i]?.getD 0 < ys[i]?.getD 0) : val β xs < val β ys := by
  have l1 : xs.length ≤ max (i + 1) (max xs.length ys.length) := by omega
  have l2 : ys.length ≤ max (i + 1) (max xs.length ys.length) := by omega
  rw [← pad_val β xs (max (i + 1) (max xs.length ys.length)), ← pad_val β ys (max (i + 1) (max xs.length ys.length))]
  exact val_lt_of_digit hβ (pad_dg hβ hx _) (pad_dg hβ hy _) i (pad_get l1 (by omega)) (pad_get l2 (by omega)) (pad_drop l1 l2 h) hlt

/-- Digits put one behind the other: O so far, c carried on; together they are F. -/
structure Acc (β F : Int) (O : List Int) (i : Nat) (c : Int) : Prop where
  dg : Dg β O
  len : O.length = i
  num : val β O + β ^ i * c = F
theorem Acc.start {β : Int} : Acc β 0 [] 0 0 := ⟨Dg.nil, rfl, by simp [val]⟩
theorem Acc.step {β F f c d c' : Int} {O : List Int} {i : Nat} (h : Acc β F O i c) (hd : 0 ≤ d ∧ d < β) (e : d + β * c' = f + c) : Acc β (F + β ^ i * f) (O ++ [d]) (i + 1) c' := by
  refine ⟨h.dg.append (Dg.cons hd Dg.nil), by simp [h.len], ?_⟩
  rw [val_snoc, h.len, ← h.num, Int.pow_succ]
  have : β ^ i * (d + β * c') = β ^ i * (f + c) := by rw [e]
  grind
theorem val_take_next (β : Int) (X : List Int) (i : Nat) : val β (X.take (i + 1)) = val β (X.take i) + β ^ i * X[i]?.getD 0 := by
  rcases Nat.lt_or_ge i X.length with hl | hl
  · obtain ⟨y, hy⟩ := get_of_lt hl
    rw [take_succ_of hy, val_snoc, List.length_take, Nat.min_eq_left (by omega), hy]
    rfl
  · rw [List.getElem?_eq_none hl, List.take_of_length_le (by omega), List.take_of_length_le hl]
    simp
theorem get0_dg {β : Int} (hβ : 0 < β) {X : List Int} (h : Dg β X) (i : Nat) : 0 ≤ X[i]?.getD 0 ∧ X[i]?.getD 0 < β := by
  rcases Nat.lt_or_ge i X.length with hl | hl
  · obtain ⟨y, hy⟩ := get_of_lt hl
    rw [hy]
    exact h.get hy
  · rw [List.getElem?_eq_none hl]
    exact ⟨Int.le_refl _, hβ⟩

end Go.Proofs.YthicpakanhhipaaGreatDoor
