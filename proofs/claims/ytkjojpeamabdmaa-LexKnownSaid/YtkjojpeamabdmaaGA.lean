/- Plain facts on rows of digits in a base (least first): their number, trimming, uniqueness. No program stands in it. -/
import Derived.WalkKit
import Derived.WalkSpells
import Derived.Deep.AppendLies
import Derived.Laws.AppendOwnNone
import Derived.Deep.Draws
import Derived.Lib.ParseIntB
import Derived.Lib.ItoaNum
import Derived.Lib.Repeat
import Derived.Test.YtkjojpeamabdmaaProg
import Derived.WalkLawsBesides
import Derived.Deep.QuietTactic
import Derived.BigQuiet
import Derived.Lib.Hide
import Derived.KernelRfl
import Derived.Laws.BitsLemmas
import Derived.Deep.RegionHeld3
import Derived.WalkMore
import Derived.Laws.CopyOwn
import Derived.BigRegion
import Derived.Laws.Rows
import Derived.Test.YtkjojpeamabdmaaShelf
import Derived.Lib.Walk
import Derived.Lib.ItoaWalk
import Derived.Lib.ItoaMem
import Derived.Lib.AppendIntMem
import Derived.BigCall
import Derived.BigGuard
import Derived.Laws.Tables
import Derived.Laws.ResultCell
import Derived.Laws.CopyRow
import Derived.Lib.AtoiErrMem
import Derived.Lib.AppendStr
import Derived.Lib.Join
import Derived.ProofKit
import Derived.Lib.SmallJoins
import Derived.Deep.Slices
import Derived.Deep.Fields
import Derived.ChangeSame
set_option linter.unusedSimpArgs false
set_option linter.unusedVariables false
namespace Go.Proofs.Ytkjojpeamabdmaa
/-- What a row of digits counts, the least first. -/
def val (β : Int) : List Int → Int
  | [] => 0
  | x :: xs => x + β * val β xs
/-- Each is a digit. -/
def Dg (β : Int) (xs : List Int) : Prop := ∀ x ∈ xs, 0 ≤ x ∧ x < β
/-- Without noughts at the end. -/
def tl : List Int → List Int
  | [] => []
  | x :: xs => if tl xs = [] then (if x = 0 then [] else [x]) else x :: tl xs
/-- Trimmed. -/
def Tr (xs : List Int) : Prop := tl xs = xs
theorem Dg.nil {β : Int} : Dg β [] := fun _ h => by cases h
theorem Dg.cons {β x : Int} {xs : List Int} (h : 0 ≤ x ∧ x < β) (hs : Dg β xs) : Dg β (x :: xs) := fun y hy => by
  rcases List.mem_cons.1 hy with rfl | hy
  · exact h
  · exact hs y hy
theorem Dg.head {β x : Int} {xs : List Int} (h : Dg β (x :: xs)) : 0 ≤ x ∧ x < β := h x (by simp)
theorem Dg.tail {β x : Int} {xs : List Int} (h : Dg β (x :: xs)) : Dg β xs := fun y hy => h y (by simp [hy])
theorem Dg.append {β : Int} {xs ys : List Int} (h : Dg β xs) (h' : Dg β ys) : Dg β (xs ++ ys) := fun y hy => by
  rcases List.mem_append.1 hy with hy | hy
  · exact h y hy
  · exact h' y hy
theorem Dg.left {β : Int} {xs ys : List Int} (h : Dg β (xs ++ ys)) : Dg β xs := fun y hy => h y (by simp [hy])
theorem Dg.right {β : Int} {xs ys : List Int} (h : Dg β (xs ++ ys)) : Dg β ys := fun y hy => h y (by simp [hy])
theorem Dg.take {β : Int} {xs : List Int} (h : Dg β xs) (n : Nat) : Dg β (xs.take n) := fun y hy => h y (List.mem_of_mem_take hy)
theorem Dg.drop {β : Int} {xs : List Int} (h : Dg β xs) (n : Nat) : Dg β (xs.drop n) := fun y hy => h y (List.mem_of_mem_drop hy)
theorem Dg.get {β : Int} {xs : List Int} (h : Dg β xs) {i : Nat} {x : Int} (hx : xs[i]? = some x) : 0 ≤ x ∧ x < β := h x (List.mem_of_getElem? hx)
theorem Dg.set {β : Int} {xs : List Int} (h : Dg β xs) {i : Nat} {x : Int} (hx : 0 ≤ x ∧ x < β) : Dg β (xs.set i x) := fun y hy => by
  rcases List.mem_or_eq_of_mem_set hy with hy | rfl
  · exact h y hy
  · exact hx
theorem Dg.zeros {β : Int} (hβ : 0 < β) (n : Nat) : Dg β (List.replicate n 0) := fun y hy => by
  obtain ⟨_, rfl⟩ := List.mem_replicate.1 hy
  exact ⟨Int.le_refl _, hβ⟩
theorem val_append (β : Int) (xs ys : List Int) : val β (xs ++ ys) = val β xs + β ^ xs.length * val β ys := by
  induction xs with
  | nil => simp [val]
  | cons x xs ih => simp only [List.cons_append, val, ih, List.length_cons, Int.pow_succ]; grind
theorem val_snoc (β : Int) (xs : List Int) (y : Int) : val β (xs ++ [y]) = val β xs + β ^ xs.length * y := by
  rw [val_append]; simp [val]
theorem val_nonneg {β : Int} (hβ : 0 < β) {xs : List Int} (h : Dg β xs) : 0 ≤ val β xs := by
  induction xs with
  | nil => simp [val]
  | cons x xs ih =>
    have h1 := ih h.tail
    have h2 := h.head
    have h3 : 0 ≤ β * val β xs := Int.mul_nonneg (by omega) h1
    simp only [val]; omega
theorem pow_pos' {β : Int} (hβ : 0 < β) (n : Nat) : 0 < β ^ n := Int.pow_pos hβ
theorem val_lt {β : Int} (hβ : 0 < β) {xs : List Int} (h : Dg β xs) : val β xs < β ^ xs.length := by
  induction xs with
  | nil => simp [val]
  | cons x xs ih =>
    have h1 := ih h.tail
    have h2 := h.head
    have h3 : β * (val β xs + 1) ≤ β * β ^ xs.length := Int.mul_le_mul_of_nonneg_left (by omega) (by omega)
    simp only [val, List.length_cons, Int.pow_succ]
    have h4 : β * (val β xs + 1) = β * val β xs + β := by grind
    have h5 : β ^ xs.length * β = β * β ^ xs.length := Int.mul_comm _ _
    omega
theorem val_zeros (β : Int) (n : Nat) : val β (List.replicate n 0) = 0 := by
  induction n with
  | zero => rfl
  | succ n ih => simp [List.replicate_succ, val, ih]
theorem tl_len (xs : List Int) : (tl xs).length ≤ xs.length := by
  induction xs with
  | nil => simp [tl]
  | cons x xs ih => simp only [tl]; split <;> (try split) <;> simp <;> omega
theorem tl_val (β : Int) (xs : List Int) : val β (tl xs) = val β xs := by
  induction xs with
  | nil => rfl
  | cons x xs ih =>
    simp only [tl]
    split
    · rename_i h
      rw [h] at ih
      have ih' : val β xs = 0 := by rw [← ih]; rfl
      split <;> simp [val, ih'] <;> omega
    · simp [val, ih]
theorem tl_Dg {β : Int} {xs : List Int} (h : Dg β xs) : Dg β (tl xs) := by
  induction xs with
  | nil => exact h
  | cons x xs ih =>
    simp only [tl]
    split
    · split
      · exact Dg.nil
      · exact Dg.cons h.head Dg.nil
    · exact Dg.cons h.head (ih h.tail)
theorem tl_idem (xs : List Int) : Tr (tl xs) := by
  unfold Tr
  induction xs with
  | nil => rfl
  | cons x xs ih =>
    simp only [tl]
    split
    · split
      · rfl
      · rename_i h; simp [tl, h]
    · rename_i h; simp only [tl, ih, if_neg h]
theorem tl_snoc_zero (xs : List Int) : tl (xs ++ [0]) = tl xs := by
  induction xs with
  | nil => simp [tl]
  | cons x xs ih => simp only [List.cons_append, tl, ih]
theorem tl_snoc_ne (xs : List Int) {y : Int} (hy : y ≠ 0) : tl (xs ++ [y]) = xs ++ [y] := by
  induction xs with
  | nil => simp [tl, hy]
  | cons x xs ih => simp only [List.cons_append, tl, ih]; simp
theorem Tr.tail {x : Int} {xs : List Int} (h : Tr (x :: xs)) : Tr xs := by
  unfold Tr at *
  simp only [tl] at h
  split at h
  · rename_i h1
    split at h
    · cases h
    · injection h with _ h; rw [h1, ← h]
  · injection h
theorem Tr.nil : Tr [] := rfl
theorem Tr.zero {β : Int} (hβ : 0 < β) {xs : List Int} (h : Dg β xs) (ht : Tr xs) (hv : val β xs = 0) : xs = [] := by
  induction xs with
  | nil => rfl
  | cons x xs ih =>
    have h1 := val_nonneg hβ h.tail
    have h2 := h.head
    have h3 : 0 ≤ β * val β xs := Int.mul_nonneg (by omega) h1
    simp only [val] at hv
    have h4 : β * val β xs = 0 := by omega
    have h5 : val β xs = 0 := by
      rcases Int.mul_eq_zero.1 h4 with h | h
      · omega
      · exact h
    have h6 := ih h.tail ht.tail h5
    subst h6
    obtain rfl : x = 0 := by omega
    unfold Tr at ht
    simp [tl] at ht
/-- The row of a number: digits, trimmed. -/
structure Row (β N : Int) (xs : List Int) : Prop where
  dg : Dg β xs
  tr : Tr xs
  val : val β xs = N
/-- -1, 0, 1: how two numbers stand. -/
def cmpI (a b : Int) : Int := if a < b then -1 else if a = b then 0 else 1
theorem getElem?_split {xs : List Int} {i : Nat} {x : Int} (h : xs[i]? = some x) : xs = xs.take i ++ x :: xs.drop (i + 1) := by
  obtain ⟨hi, rfl⟩ := List.getElem?_eq_some_iff.1 h
  simp
theorem take_succ_of {xs : List Int} {i : Nat} {x : Int} (h : xs[i]? = some x) : xs.take (i + 1) = xs.take i ++ [x] := by
  rw [List.take_add_one, h]; rfl
theorem drop_of {xs : List Int} {i : Nat} {x : Int} (h : xs[i]? = some x) : xs.drop i = x :: xs.drop (i + 1) := by
  obtain ⟨hi, rfl⟩ := List.getElem?_eq_some_iff.1 h
  simp
theorem lt_of_get {xs : List Int} {i : Nat} {x : Int} (h : xs[i]? = some x) : i < xs.length := (List.getElem?_eq_some_iff.1 h).1
theorem get_of_lt {xs : List Int} {i : Nat} (h : i < xs.length) : ∃ x, xs[i]? = some x := ⟨xs[i], List.getElem?_eq_getElem h⟩
/-- Two rows that are alike from a place on stand as that place's digits do. -/
theorem val_lt_of_digit {β : Int} (hβ : 0 < β) {xs ys : List Int} (hx : Dg β xs) (hy : Dg β ys) (i : Nat) {x y : Int} (ex : xs[i]? = some x) (ey : ys[i]? = some y)
    (hd : xs.drop (i + 1) = ys.drop (i + 1)) (hlt : x < y) : val β xs < val β ys := by
  have l1 := lt_of_get ex
  have l2 := lt_of_get ey
  rw [getElem?_split ex, getElem?_split ey, val_append, val_append, hd]
  simp only [val, List.length_take]
  rw [Nat.min_eq_left (by omega), Nat.min_eq_left (by omega)]
  have a1 := val_lt hβ (hx.take i)
  have a2 := val_nonneg hβ (hy.take i)
  rw [List.length_take, Nat.min_eq_left (by omega)] at a1
  have p := pow_pos' hβ i
  have m : β ^ i * (x + 1) ≤ β ^ i * y := Int.mul_le_mul_of_nonneg_left (by omega) (by omega)
  generalize val β (ys.drop (i + 1)) = V at *
  have e1 : β ^ i * (x + β * V) = β ^ i * (x + 1) - β ^ i + β ^ i * (β * V) := by grind
  have e2 : β ^ i * (y + β * V) = β ^ i * y + β ^ i * (β * V) := by grind
  omega
/-- A shorter trimmed row counts less. -/
theorem val_lt_of_len {β : Int} (hβ : 1 < β) {xs ys : List Int} (hx : Dg β xs) (hy : Dg β ys) (ty : Tr ys) (hl : xs.length < ys.length) : val β xs < val β ys := by
  have a1 := val_lt (by omega) hx
  have hne : ys ≠ [] := by intro e; subst e; simp at hl
  obtain ⟨zs, z, rfl⟩ : ∃ zs z, ys = zs ++ [z] := ⟨ys.dropLast, ys.getLast hne, (List.dropLast_concat_getLast hne).symm⟩
  have hz : z ≠ 0 := by
    rintro rfl
    have := ty
    unfold Tr at this
    rw [tl_snoc_zero] at this
    have l := tl_len zs
    rw [this] at l
    simp at l
    omega
  have hz' := hy z (by simp)
  rw [val_snoc]
  have a2 := val_nonneg (by omega) hy.left
  have p := pow_pos' (show 0 < β by omega) zs.length
  have m : β ^ zs.length * 1 ≤ β ^ zs.length * z := Int.mul_le_mul_of_nonneg_left (by omega) (by omega)
  have q : β ^ xs.length ≤ β ^ zs.length := by
    obtain ⟨d, hd⟩ : ∃ d, zs.length = xs.length + d := ⟨zs.length - xs.length, by simp at hl; omega⟩
    rw [hd, Int.pow_add]
    have p1 := pow_pos' (show 0 < β by omega) xs.length
    have p2 := pow_pos' (show 0 < β by omega) d
    have : β ^ xs.length * 1 ≤ β ^ xs.length * β ^ d := Int.mul_le_mul_of_nonneg_left (by omega) (by omega)
    omega
  omega
/-- Behind i digits of a sum (σ = 1) or a difference (σ = -1) that is written over S, with a carry or borrow cr. -/
structure Carry (β σ : Int) (S X S1 : List Int) (i : Nat) (cr : Int) : Prop where
  dg : Dg β S1
  len : S1.length = S.length
  c01 : 0 ≤ cr ∧ cr ≤ 1
  rest : S1.drop i = S.drop i
  num : val β (S1.take i) + σ * (β ^ i * cr) = val β (S.take i) + σ * val β (X.take i)
theorem Carry.start {β σ : Int} {S X : List Int} (h : Dg β S) : Carry β σ S X S 0 0 := ⟨h, rfl, by omega, rfl, by simp [val]⟩
theorem Carry.at_ {β σ : Int} {S X S1 : List Int} {i : Nat} {cr : Int} (h : Carry β σ S X S1 i cr) : S1[i]? = S[i]? := by
  have := congrArg (fun l => l[0]?) h.rest
  simpa using this
theorem Carry.step {β σ : Int} {S X S1 : List Int} {i : Nat} {cr s x d cr' : Int} (h : Carry β σ S X S1 i cr) (hs : S1[i]? = some s) (hx : X[i]?.getD 0 = x)
    (hd : 0 ≤ d ∧ d < β) (hc : 0 ≤ cr' ∧ cr' ≤ 1) (e : d + σ * (β * cr') = s + σ * (x + cr)) : Carry β σ S X (S1.set i d) (i + 1) cr' := by
  have hi := lt_of_get hs
  have hS : S[i]? = some s := by rw [← h.at_]; exact hs
  have hd' : (S1.set i d)[i]? = some d := by simp [hi]
  refine ⟨h.dg.set hd, by simp [h.len], hc, ?_, ?_⟩
  · rw [List.drop_set_of_lt (by omega)]
    have := congrArg (List.drop 1) h.rest
    simpa [List.drop_drop] using this
  · rw [take_succ_of hd', take_succ_of hS, List.take_set_of_le (by omega), val_snoc, val_snoc]
    have hX : val β (X.take (i + 1)) = val β (X.take i) + β ^ i * x := by
      rcases Nat.lt_or_ge i X.length with hl | hl
      · obtain ⟨y, hy⟩ := get_of_lt hl
        rw [hy] at hx
        obtain rfl : y = x := hx
        rw [take_succ_of hy, val_snoc, List.length_take, Nat.min_eq_left (by omega)]
      · rw [List.getElem?_eq_none hl] at hx
        obtain rfl : (0 : Int) = x := hx
        rw [List.take_of_length_le (by omega), List.take_of_length_le (by omega)]
        omega
    rw [hX, List.length_take, List.length_take, Nat.min_eq_left (by omega), Nat.min_eq_left (by have := lt_of_get hS; omega)]
    have hn := h.num
    have e2 : β ^ i * d + σ * (β ^ (i + 1) * cr') = β ^ i * s + σ * (β ^ i * x) + σ * (β ^ i * cr) := by
      rw [Int.pow_succ]
      have : β ^ i * (d + σ * (β * cr')) = β ^ i * (s + σ * (x + cr)) := by rw [e]
      grind
    have e3 : σ * (val β (X.take i) + β ^ i * x) = σ * val β (X.take i) + σ * (β ^ i * x) := Int.mul_add _ _ _
    omega
theorem Carry.stop {β σ : Int} {S X S1 : List Int} {i : Nat} (h : Carry β σ S X S1 i 0) (hX : X.length ≤ i) (hi : i ≤ S.length) : val β S1 = val β S + σ * val β X := by
  have hn := h.num
  rw [List.take_of_length_le hX] at hn
  have a : val β S1 = val β (S1.take i) + β ^ i * val β (S1.drop i) := by
    conv => lhs; rw [← List.take_append_drop i S1]
    rw [val_append, List.length_take, Nat.min_eq_left (by have := h.len; omega)]
  have b : val β S = val β (S.take i) + β ^ i * val β (S.drop i) := by
    conv => lhs; rw [← List.take_append_drop i S]
    rw [val_append, List.length_take, Nat.min_eq_left (by omega)]
  rw [a, b, h.rest]
  simp only [Int.mul_zero, Int.add_zero] at hn
  omega
theorem Row.len_le {β N : Int} (hβ : 1 < β) {xs : List Int} (h : Row β N xs) {k : Nat} (hN : N < β ^ k) : xs.length ≤ k := by
  rcases Nat.lt_or_ge k xs.length with hl | hl
  · have := val_lt_of_len hβ (xs := List.replicate k 0) (ys := xs) (Dg.zeros (by omega) k) h.dg h.tr (by simpa using hl)
    have hne : xs ≠ [] := by intro e; subst e; simp at hl
    obtain ⟨zs, z, rfl⟩ : ∃ zs z, xs = zs ++ [z] := ⟨xs.dropLast, xs.getLast hne, (List.dropLast_concat_getLast hne).symm⟩
    have hz : z ≠ 0 := by
      rintro rfl
      have h1 := h.tr
      unfold Tr at h1
      rw [tl_snoc_zero] at h1
      have h2 := tl_len zs
      rw [h1] at h2
      simp at h2
      omega
    have hz' := h.dg z (by simp)
    have hv := h.val
    rw [val_snoc] at hv
    have p0 := val_nonneg (by omega) h.dg.left
    have p1 := pow_pos' (show 0 < β by omega) zs.length
    have m : β ^ zs.length * 1 ≤ β ^ zs.length * z := Int.mul_le_mul_of_nonneg_left (by omega) (by omega)
    obtain ⟨d, hd⟩ : ∃ d, zs.length = k + d := ⟨zs.length - k, by simp at hl; omega⟩
    have p2 := pow_pos' (show 0 < β by omega) d
    have p3 := pow_pos' (show 0 < β by omega) k
    have q : β ^ k * 1 ≤ β ^ k * β ^ d := Int.mul_le_mul_of_nonneg_left (by omega) (by omega)
    rw [hd, Int.pow_add] at hv m
    omega
  · exact hl
/-- Behind i digits of a product with a digit. -/
structure Prod (β m : Int) (X P : List Int) (i : Nat) (h : Int) : Prop where
  dg : Dg β P
  high : 0 ≤ h ∧ h < β
  num : val β (P.take i) + β ^ i * h = m * val β (X.take i)
theorem Prod.start {β m : Int} {X P : List Int} (hβ : 0 < β) (h : Dg β P) : Prod β m X P 0 0 := ⟨h, ⟨Int.le_refl _, hβ⟩, by simp [val]⟩
theorem Prod.step {β m : Int} {X P : List Int} {i : Nat} {h x d h' : Int} (hp : Prod β m X P i h) (hx : X[i]? = some x) (hi : i < P.length) (hd : 0 ≤ d ∧ d < β) (hh : 0 ≤ h' ∧ h' < β) (e : d + β * h' = x * m + h) :
    Prod β m X (P.set i d) (i + 1) h' := by
  have hd' : (P.set i d)[i]? = some d := by simp [hi]
  refine ⟨hp.dg.set hd, hh, ?_⟩
  rw [take_succ_of hd', take_succ_of hx, List.take_set_of_le (by omega), val_snoc, val_snoc, List.length_take, List.length_take, Nat.min_eq_left (by omega), Nat.min_eq_left (by have := lt_of_get hx; omega)]
  have hn := hp.num
  rw [Int.pow_succ]
  have : β ^ i * (d + β * h') = β ^ i * (x * m + h) := by rw [e]
  grind
theorem Prod.stop {β m : Int} {X P : List Int} {n : Nat} {h : Int} (hp : Prod β m X P n h) (hX : X.length = n) (hP : P.length = n + 1) : val β (P.set n h) = m * val β X ∧ Dg β (P.set n h) := by
  refine ⟨?_, hp.dg.set hp.high⟩
  have hn := hp.num
  rw [List.take_of_length_le (l := X) (by omega)] at hn
  have hd' : (P.set n h)[n]? = some h := by simp [hP]
  rw [getElem?_split hd', val_append, List.take_set_of_le (by omega), List.drop_of_length_le (by simp; omega), List.length_take, Nat.min_eq_left (by omega), ← hn]
  simp [val]
/-- A division by a digit, down to place k. -/
structure Quo (β d : Int) (X Q : List Int) (k : Nat) (r : Int) : Prop where
  dg : Dg β Q
  rest : 0 ≤ r ∧ r < d
  num : val β (X.drop k) = d * val β (Q.drop k) + r
theorem Quo.start {β d : Int} {X Q : List Int} {n : Nat} (hd : 0 < d) (h : Dg β Q) (hX : X.length ≤ n) (hQ : Q.length ≤ n) : Quo β d X Q n 0 :=
  ⟨h, ⟨Int.le_refl _, hd⟩, by rw [List.drop_of_length_le hX, List.drop_of_length_le hQ]; simp [val]⟩
theorem Quo.step {β d : Int} {X Q : List Int} {j : Nat} {r x : Int} (h : Quo β d X Q (j + 1) r) (hx : X[j]? = some x) (hj : j < Q.length) (hq : 0 ≤ (r * β + x) / d ∧ (r * β + x) / d < β) :
    Quo β d X (Q.set j ((r * β + x) / d)) j ((r * β + x) % d) := by
  have hd : 0 < d := by have := h.rest; omega
  refine ⟨h.dg.set hq, ⟨Int.emod_nonneg _ (by omega), Int.emod_lt_of_pos _ hd⟩, ?_⟩
  have hd' : (Q.set j ((r * β + x) / d))[j]? = some ((r * β + x) / d) := by simp [hj]
  rw [drop_of hx, drop_of hd', List.drop_set_of_lt (by omega)]
  simp only [val]
  rw [h.num]
  have := Int.emod_add_mul_ediv (r * β + x) d
  grind
/-- So many rows of M digits fit into M + 2. -/
theorem sum_fit {M i : Nat} {S x : Int} (hi : (i : Int) + 1 ≤ 9223372036854775807) (hS : S ≤ (i : Int) * 4294967296 ^ M) (hx : x < 4294967296 ^ M) :
    S + x ≤ ((i : Int) + 1) * 4294967296 ^ M ∧ S + x < 4294967296 ^ (M + 2) := by
  have p := pow_pos' (show (0 : Int) < 4294967296 by decide) M
  rw [Int.pow_add]
  generalize (4294967296 : Int) ^ M = Y at *
  have e1 : ((i : Int) + 1) * Y = (i : Int) * Y + Y := by rw [Int.add_mul]; omega
  have e2 : ((i : Int) + 1) * Y ≤ 9223372036854775807 * Y := Int.mul_le_mul_of_nonneg_right hi (by omega)
  have e3 : (4294967296 : Int) ^ 2 = 18446744073709551616 := by decide
  rw [e3]
  omega
theorem pow_mono {β : Int} (hβ : 0 < β) {a b : Nat} (h : a ≤ b) : β ^ a ≤ β ^ b := by
  obtain ⟨d, rfl⟩ : ∃ d, b = a + d := ⟨b - a, by omega⟩
  rw [Int.pow_add]
  have p1 := pow_pos' hβ a
  have p2 := pow_pos' hβ d
  have : β ^ a * 1 ≤ β ^ a * β ^ d := Int.mul_le_mul_of_nonneg_left (by omega) (by omega)
  omega
theorem two_split {d : Nat} (hd : d ≤ 32) : (2 : Int) ^ d * 2 ^ (32 - d) = 4294967296 := by
  rw [← Int.pow_add, show d + (32 - d) = 32 by omega]; decide
/-- A digit's high part: what is shifted out of it to the left is what is left of it when it is shifted to the right. -/
theorem shift_high {x : Int} {d : Nat} (hd : d ≤ 32) : x * 2 ^ d / 4294967296 = x / 2 ^ (32 - d) := by
  have p : (0 : Int) < 2 ^ d := pow_pos' (by decide) d
  rw [← two_split hd, Int.mul_comm x, Int.mul_ediv_mul_of_pos _ _ p]
theorem shift_split {x : Int} {d : Nat} (hd : d ≤ 32) : x * 2 ^ d % 4294967296 + 4294967296 * (x / 2 ^ (32 - d)) = x * 2 ^ d := by
  rw [← shift_high hd]; exact Int.emod_add_mul_ediv _ _
theorem high_small {x : Int} {d : Nat} (hd : d ≤ 32) (hx : 0 ≤ x ∧ x < 4294967296) : 0 ≤ x / 2 ^ (32 - d) ∧ x / 2 ^ (32 - d) < 2 ^ d := by
  have p : (0 : Int) < 2 ^ (32 - d) := pow_pos' (by decide) _
  refine ⟨Int.ediv_nonneg hx.1 (by omega), Int.ediv_lt_of_lt_mul p ?_⟩
  rw [two_split hd]; exact hx.2
theorem pow_le_limb {d : Nat} (hd : d ≤ 32) : (2 : Int) ^ d ≤ 4294967296 := by
  have := pow_mono (show (0 : Int) < 2 by decide) hd
  exact Int.le_trans this (by decide)
/-- What is joined: low digits, and a multiple of 2 to the d. -/
theorem join_small {y x : Int} {d : Nat} (hd : d ≤ 32) (hy : 0 ≤ y ∧ y < 2 ^ d) (_hx : 0 ≤ x) : 0 ≤ y + x * 2 ^ d % 4294967296 ∧ y + x * 2 ^ d % 4294967296 < 4294967296 := by
  have h1 := Int.emod_nonneg (x * 2 ^ d) (show (4294967296 : Int) ≠ 0 by decide)
  refine ⟨by omega, ?_⟩
  have p : (0 : Int) < 2 ^ d := pow_pos' (by decide) d
  have e : x * 2 ^ d % 4294967296 = 2 ^ d * (x % 2 ^ (32 - d)) := by
    rw [← two_split hd, Int.mul_comm x, Int.mul_emod_mul_of_pos _ _ p]
  have h2 := Int.emod_lt_of_pos x (show (0 : Int) < 2 ^ (32 - d) from pow_pos' (by decide) _)
  have h3 : 2 ^ d * (x % 2 ^ (32 - d) + 1) ≤ 2 ^ d * 2 ^ (32 - d) := Int.mul_le_mul_of_nonneg_left (by omega) (by omega)
  rw [two_split hd, Int.mul_add] at h3
  omega
/-- Behind i digits of a shift to the left by L limbs and d binary digits. -/
structure Up (d L : Nat) (X S : List Int) (i : Nat) (c : Int) : Prop where
  dg : Dg 4294967296 S
  here : S[i + L]? = some c
  small : 0 ≤ c ∧ c < 2 ^ d
  num : val 4294967296 (S.take (i + L)) + 4294967296 ^ (i + L) * c = 4294967296 ^ L * 2 ^ d * val 4294967296 (X.take i)
theorem Up.start {d L n : Nat} {X : List Int} : Up d L X (List.replicate (n + L + 1) 0) 0 0 := by
  refine ⟨Dg.zeros (by decide) _, ?_, ⟨Int.le_refl _, pow_pos' (by decide) _⟩, ?_⟩
  · rw [List.getElem?_replicate, if_pos (by omega)]
  · rw [List.take_replicate, val_zeros]; simp [val]
theorem Up.step {d L : Nat} {X S : List Int} {i : Nat} {c x : Int} (h : Up d L X S i c) (hd : d ≤ 32) (hx : X[i]? = some x) (hxd : 0 ≤ x ∧ x < 4294967296) (hl : i + L + 1 < S.length) :
    Up d L X ((S.set (i + L) (c + x * 2 ^ d % 4294967296)).set (i + L + 1) (x / 2 ^ (32 - d))) (i + 1) (x / 2 ^ (32 - d)) := by
  have hs := high_small hd hxd
  have hj := join_small hd h.small hxd.1
  have hp := pow_le_limb hd
  refine ⟨(h.dg.set hj).set (by omega), ?_, hs, ?_⟩
  · rw [show i + 1 + L = i + L + 1 by omega]; simp [hl]
  · rw [show i + 1 + L = i + L + 1 by omega, List.take_set_of_le (Nat.le_refl _)]
    have e1 : (S.set (i + L) (c + x * 2 ^ d % 4294967296))[i + L]? = some (c + x * 2 ^ d % 4294967296) := List.getElem?_set_self (by omega)
    rw [take_succ_of e1, List.take_set_of_le (Nat.le_refl _), val_snoc, take_succ_of hx, val_snoc, List.length_take, List.length_take, Nat.min_eq_left (by omega), Nat.min_eq_left (by have := lt_of_get hx; omega)]
    have hn := h.num
    have hsp := shift_split (x := x) hd
    generalize x * 2 ^ d % 4294967296 = lo at *
    generalize x / 2 ^ (32 - d) = hi at *
    have e2 : (4294967296 : Int) ^ (i + L) * (lo + 4294967296 * hi) = 4294967296 ^ (i + L) * (x * 2 ^ d) := by rw [hsp]
    rw [Int.pow_succ, Int.pow_add] at *
    grind
theorem Up.stop {d L n : Nat} {X S : List Int} {c : Int} (h : Up d L X S n c) (hX : X.length = n) (hS : S.length = n + L + 1) : val 4294967296 S = 4294967296 ^ L * 2 ^ d * val 4294967296 X := by
  have hn := h.num
  rw [List.take_of_length_le (l := X) (by omega)] at hn
  have := val_snoc 4294967296 (S.take (n + L)) c
  rw [← take_succ_of h.here, List.take_of_length_le (by omega), List.length_take, Nat.min_eq_left (by omega), hn] at this
  exact this
/-- Behind i digits of a shift to the right by d binary digits. -/
structure Down (d : Nat) (Y S : List Int) (i : Nat) : Prop where
  dg : Dg 4294967296 S
  last : ∀ j, i = j + 1 → ∃ y s, Y[j]? = some y ∧ S[j]? = some s ∧ s = y / 2 ^ d
  num : val 4294967296 (S.take i) = val 4294967296 (Y.take i) / 2 ^ d
theorem Down.start {d n : Nat} {Y : List Int} : Down d Y (List.replicate n 0) 0 := ⟨Dg.zeros (by decide) _, fun j h => by omega, by simp [val]⟩
theorem low_small {y : Int} {d : Nat} (hy : 0 ≤ y ∧ y < 4294967296) : 0 ≤ y / 2 ^ d ∧ y / 2 ^ d < 4294967296 := by
  have p : (0 : Int) < 2 ^ d := pow_pos' (by decide) d
  refine ⟨Int.ediv_nonneg hy.1 (by omega), Int.ediv_lt_of_lt_mul p ?_⟩
  have : (4294967296 : Int) * 1 ≤ 4294967296 * 2 ^ d := Int.mul_le_mul_of_nonneg_left (by omega) (by omega)
  omega
theorem Down.first {d : Nat} {Y S : List Int} {y : Int} (h : Down d Y S 0) (hy : Y[0]? = some y) (hyd : 0 ≤ y ∧ y < 4294967296) (hl : 0 < S.length) : Down d Y (S.set 0 (y / 2 ^ d)) 1 := by
  have hn := low_small (d := d) hyd
  have e1 : (S.set 0 (y / 2 ^ d))[0]? = some (y / 2 ^ d) := by simp [hl]
  refine ⟨h.dg.set hn, fun j hj => ?_, ?_⟩
  · obtain rfl : j = 0 := by omega
    exact ⟨y, _, hy, e1, rfl⟩
  · rw [take_succ_of e1, take_succ_of hy]; simp [val]
theorem Down.next {d : Nat} {Y S : List Int} {j : Nat} {y s : Int} (hd : d ≤ 32) (h : Down d Y S (j + 1)) (hy : Y[j + 1]? = some y) (hyd : 0 ≤ y ∧ y < 4294967296) (hs : S[j]? = some s) (hYd : Dg 4294967296 Y) (hl : j + 1 < S.length) :
    (0 ≤ s ∧ s < 2 ^ (32 - d)) ∧ Down d Y ((S.set (j + 1) (y / 2 ^ d)).set j (s + y * 2 ^ (32 - d) % 4294967296)) (j + 1 + 1) := by
  obtain ⟨y0, s0, hy0, hs0, e0⟩ := h.last j rfl
  rw [hs] at hs0
  injection hs0 with hs0
  subst hs0
  have hd' : 32 - d ≤ 32 := by omega
  have hsm : 0 ≤ s ∧ s < 2 ^ (32 - d) := by
    have := high_small hd' (hYd.get hy0)
    rw [show 32 - (32 - d) = d by omega] at this
    rw [e0]; exact this
  refine ⟨hsm, (h.dg.set (low_small hyd)).set (join_small hd' hsm hyd.1), fun i hi => ?_, ?_⟩
  · obtain rfl : i = j + 1 := by omega
    refine ⟨y, _, hy, ?_, rfl⟩
    rw [List.getElem?_set_ne (by omega)]; simp [hl]
  · have e1 : ((S.set (j + 1) (y / 2 ^ d)).set j (s + y * 2 ^ (32 - d) % 4294967296))[j + 1]? = some (y / 2 ^ d) := by rw [List.getElem?_set_ne (by omega)]; simp [hl]
    have e2 : ((S.set (j + 1) (y / 2 ^ d)).set j (s + y * 2 ^ (32 - d) % 4294967296))[j]? = some (s + y * 2 ^ (32 - d) % 4294967296) := List.getElem?_set_self (by rw [List.length_set]; omega)
    have hn := h.num
    rw [take_succ_of hs, val_snoc] at hn
    rw [take_succ_of e1, val_snoc, take_succ_of e2, val_snoc, take_succ_of hy, val_snoc, List.take_set_of_le (Nat.le_refl _), List.take_set_of_le (by omega)]
    simp only [List.length_append, List.length_take, List.length_set, List.length_cons, List.length_nil]
    simp only [List.length_take] at hn
    rw [Nat.min_eq_left (by omega)] at hn
    rw [Nat.min_eq_left (by omega), Nat.min_eq_left (by have := lt_of_get hy; omega)]
    have hsp := shift_split (x := y) hd'
    rw [show 32 - (32 - d) = d by omega] at hsp
    have e3 : (4294967296 : Int) ^ (j + 1) * y = 2 ^ d * (4294967296 ^ j * (y * 2 ^ (32 - d))) := by
      rw [Int.pow_succ]
      have := two_split hd
      grind
    have p : (0 : Int) < 2 ^ d := pow_pos' (by decide) d
    rw [e3, Int.add_mul_ediv_left _ _ (by omega), ← hn]
    generalize y * 2 ^ (32 - d) % 4294967296 = lo at *
    generalize y / 2 ^ d = hi at *
    have e4 : (4294967296 : Int) ^ j * (lo + 4294967296 * hi) = 4294967296 ^ j * (y * 2 ^ (32 - d)) := by rw [hsp]
    rw [Int.pow_succ]
    grind
/-- b is how many binary digits N has. -/
def IsBits (N : Int) (b : Nat) : Prop := (N = 0 ∧ b = 0) ∨ (0 < b ∧ 2 ^ (b - 1) ≤ N ∧ N < 2 ^ b)
/-- A row's binary digits are its last digit's, and all of the others. -/
theorem IsBits.row {k : Nat} {β : Int} (hβ : β = 2 ^ k) {zs : List Int} {z : Int} {b : Nat} (hz : Dg β zs) (h0 : 0 < z) (h : IsBits z b) : IsBits (val β (zs ++ [z])) (k * zs.length + b) := by
  have hb : 0 < β := by rw [hβ]; exact pow_pos' (by decide) _
  have v0 := val_nonneg hb hz
  have v1 := val_lt hb hz
  rw [val_snoc]
  rcases h with ⟨h1, _⟩ | ⟨h1, h2, h3⟩
  · omega
  · have e : β ^ zs.length = 2 ^ (k * zs.length) := by rw [hβ, ← Int.pow_mul]
    rw [e] at v1 ⊢
    have p : (0 : Int) < 2 ^ (k * zs.length) := pow_pos' (by decide) _
    have m1 : (2 : Int) ^ (k * zs.length) * 2 ^ (b - 1) ≤ 2 ^ (k * zs.length) * z := Int.mul_le_mul_of_nonneg_left h2 (by omega)
    have m2 : (2 : Int) ^ (k * zs.length) * (z + 1) ≤ 2 ^ (k * zs.length) * 2 ^ b := Int.mul_le_mul_of_nonneg_left (by omega) (by omega)
    rw [← Int.pow_add] at m1 m2
    rw [Int.mul_add] at m2
    refine .inr ⟨by omega, ?_, ?_⟩
    · rw [show k * zs.length + b - 1 = k * zs.length + (b - 1) by omega]; omega
    · omega
/-- A number's binary digits are those of its j-th part of 2, and j. -/
theorem IsBits.high {t : Int} {j b : Nat} (h1 : 0 < t / 2 ^ j) (h : IsBits (t / 2 ^ j) b) : IsBits t (b + j) := by
  have p : (0 : Int) < 2 ^ j := pow_pos' (by decide) _
  rcases h with ⟨h2, _⟩ | ⟨h2, h3, h4⟩
  · omega
  · have e := Int.emod_add_mul_ediv t (2 ^ j)
    have r0 := Int.emod_nonneg t (show (2 : Int) ^ j ≠ 0 by omega)
    have r1 := Int.emod_lt_of_pos t p
    generalize t / 2 ^ j = q at *
    generalize t % 2 ^ j = r at *
    have m1 : (2 : Int) ^ j * 2 ^ (b - 1) ≤ 2 ^ j * q := Int.mul_le_mul_of_nonneg_left h3 (by omega)
    have m2 : (2 : Int) ^ j * (q + 1) ≤ 2 ^ j * 2 ^ b := Int.mul_le_mul_of_nonneg_left (by omega) (by omega)
    rw [← Int.pow_add] at m1 m2
    rw [Int.mul_add] at m2
    refine .inr ⟨by omega, ?_, ?_⟩
    · rw [show b + j - 1 = j + (b - 1) by omega]; omega
    · rw [show b + j = j + b by omega]; omega
theorem IsBits.one : IsBits 1 1 := .inr ⟨by decide, by decide, by decide⟩
/-- How many binary digits half of a byte has. -/
def halfL : List Int := [0, 1] ++ List.replicate 2 2 ++ List.replicate 4 3 ++ List.replicate 8 4 ++ List.replicate 16 5 ++ List.replicate 32 6 ++ List.replicate 64 7
/-- In the midst of the count: n so far, t still to be counted. -/
structure BitsI (N : Int) (n0 n t : Nat) : Prop where
  pos : 0 < t
  bound : n + t ≤ n0
  num : ∀ b, IsBits (t : Int) b → IsBits N (n + b)
theorem BitsI.step {N : Int} {n0 n t : Nat} (h : BitsI N n0 n t) (ht : 255 < t) : BitsI N n0 (n + 8) (t / 256) := by
  refine ⟨by omega, by have := h.bound; omega, fun b hb => ?_⟩
  have e : ((t / 256 : Nat) : Int) = (t : Int) / 2 ^ 8 := by omega
  rw [e] at hb
  have := h.num _ (IsBits.high (by omega) hb)
  rw [show n + 8 + b = n + (b + 8) by omega]
  exact this
theorem Tr.last {xs : List Int} (h : Tr xs) (hne : xs ≠ []) : ∃ zs z, xs = zs ++ [z] ∧ z ≠ 0 ∧ xs[xs.length - 1]? = some z := by
  obtain ⟨zs, z, rfl⟩ : ∃ zs z, xs = zs ++ [z] := ⟨xs.dropLast, xs.getLast hne, (List.dropLast_concat_getLast hne).symm⟩
  refine ⟨zs, z, rfl, ?_, by simp⟩
  rintro rfl
  unfold Tr at h
  rw [tl_snoc_zero] at h
  have := tl_len zs
  rw [h] at this
  simp at this
  omega
/-- How cmpI stands by the digits. -/
theorem cmpI_lt {a b : Int} (h : a < b) : cmpI a b = -1 := by unfold cmpI; rw [if_pos h]
theorem cmpI_gt {a b : Int} (h : b < a) : cmpI a b = 1 := by unfold cmpI; rw [if_neg (by omega), if_neg (by omega)]
theorem cmpI_eq {a b : Int} (h : a = b) : cmpI a b = 0 := by unfold cmpI; rw [if_neg (by omega), if_pos h]
/-- The first k digits are trimmed as all are. -/
def TlTake (xs : List Int) (k : Nat) : Prop := tl (xs.take k) = tl xs
theorem TlTake.start {xs : List Int} {n : Nat} (h : xs.length = n) : TlTake xs n := by unfold TlTake; rw [List.take_of_length_le (by omega)]
theorem TlTake.down {xs : List Int} {j : Nat} (h : TlTake xs (j + 1)) (hx : xs[j]? = some 0) : TlTake xs j := by
  unfold TlTake at *; rw [take_succ_of hx, tl_snoc_zero] at h; exact h
theorem TlTake.zero {xs : List Int} (h : TlTake xs 0) : tl xs = [] := by unfold TlTake at h; simpa [tl] using h.symm
theorem TlTake.stop {xs : List Int} {j : Nat} {x : Int} (h : TlTake xs (j + 1)) (hx : xs[j]? = some x) (h0 : x ≠ 0) : tl xs = xs.take (j + 1) := by
  unfold TlTake at h; rw [take_succ_of hx, tl_snoc_ne _ h0] at h; rw [take_succ_of hx, h]
theorem Tr.cons {x : Int} {xs : List Int} (h : Tr xs) (hx : xs = [] → x ≠ 0) : Tr (x :: xs) := by
  unfold Tr at *
  simp only [tl, h]
  split
  · rename_i h0
    rw [if_neg (hx h0), h0]
  · rfl
theorem Tr.single {x : Int} (h : Tr [x]) : x ≠ 0 := by
  rintro rfl
  simp [Tr, tl] at h
/-- From place k on both rows are alike, noughts behind each. -/
def AlikeP (xs ys : List Int) (k : Nat) : Prop := ∀ i, k ≤ i → xs[i]?.getD 0 = ys[i]?.getD 0
/-- With noughts up to M. -/
def pad (xs : List Int) (M : Nat) : List Int := xs ++ List.replicate (M - xs.length) 0
theorem pad_val (β : Int) (xs : List Int) (M : Nat) : val β (pad xs M) = val β xs := by
  unfold pad
  rw [val_append, val_zeros]; simp
theorem pad_dg {β : Int} (hβ : 0 < β) {xs : List Int} (h : Dg β xs) (M : Nat) : Dg β (pad xs M) := h.append (Dg.zeros hβ _)
theorem pad_len {xs : List Int} {M : Nat} (h : xs.length ≤ M) : (pad xs M).length = M := by simp [pad]; omega
theorem pad_get {xs : List Int} {M i : Nat} (h : xs.length ≤ M) (hi : i < M) : (pad xs M)[i]? = some (xs[i]?.getD 0) := by
  unfold pad
  rcases Nat.lt_or_ge i xs.length with hl | hl
  · rw [List.getElem?_append_left hl, List.getElem?_eq_getElem hl]; rfl
  · rw [List.getElem?_append_right hl, List.getElem?_eq_none hl, List.getElem?_replicate, if_pos (by omega)]; rfl
theorem pad_drop {xs ys : List Int} {M k : Nat} (hx : xs.length ≤ M) (hy : ys.length ≤ M) (h : AlikeP xs ys k) : (pad xs M).drop k = (pad ys M).drop k := by
  refine List.ext_getElem? fun i => ?_
  rw [List.getElem?_drop, List.getElem?_drop]
  rcases Nat.lt_or_ge (k + i) M with hl | hl
  · rw [pad_get hx hl, pad_get hy hl, h _ (by omega)]
  · rw [List.getElem?_eq_none (by rw [pad_len hx]; omega), List.getElem?_eq_none (by rw [pad_len hy]; omega)]
theorem AlikeP.lt {β : Int} (hβ : 0 < β) {xs ys : List Int} (hx : Dg β xs) (hy : Dg β ys) {i : Nat} (h : AlikeP xs ys (i + 1)) (hlt : xs[i]?.getD 0 < ys[i]?.getD 0) : val β xs < val β ys := by
  have l1 : xs.length ≤ max (i + 1) (max xs.length ys.length) := by omega
  have l2 : ys.length ≤ max (i + 1) (max xs.length ys.length) := by omega
  rw [← pad_val β xs (max (i + 1) (max xs.length ys.length)), ← pad_val β ys (max (i + 1) (max xs.length ys.length))]
  exact val_lt_of_digit hβ (pad_dg hβ hx _) (pad_dg hβ hy _) i (pad_get l1 (by omega)) (pad_get l2 (by omega)) (pad_drop l1 l2 h) hlt
/-- Digits put one behind the other: O so far, c carried on; together they are F. -/
structure Acc (β F : Int) (O : List Int) (i : Nat) (c : Int) : Prop where
  dg : Dg β O
  len : O.length = i
  num : val β O + β ^ i * c = F
theorem Acc.start {β : Int} : Acc β 0 [] 0 0 := ⟨Dg.nil, rfl, by simp [val]⟩
theorem Acc.step {β F f c d c' : Int} {O : List Int} {i : Nat} (h : Acc β F O i c) (hd : 0 ≤ d ∧ d < β) (e : d + β * c' = f + c) : Acc β (F + β ^ i * f) (O ++ [d]) (i + 1) c' := by
  refine ⟨h.dg.append (Dg.cons hd Dg.nil), by simp [h.len], ?_⟩
  rw [val_snoc, h.len, ← h.num, Int.pow_succ]
  have : β ^ i * (d + β * c') = β ^ i * (f + c) := by rw [e]
  grind
theorem val_take_next (β : Int) (X : List Int) (i : Nat) : val β (X.take (i + 1)) = val β (X.take i) + β ^ i * X[i]?.getD 0 := by
  rcases Nat.lt_or_ge i X.length with hl | hl
  · obtain ⟨y, hy⟩ := get_of_lt hl
    rw [take_succ_of hy, val_snoc, List.length_take, Nat.min_eq_left (by omega), hy]
    rfl
  · rw [List.getElem?_eq_none hl, List.take_of_length_le (by omega), List.take_of_length_le hl]
    simp
end Go.Proofs.Ytkjojpeamabdmaa
/- Slices of numbers in memory: one that is read ('Sl'), one that the call owns ('Own'), and how both are kept. No program stands in it. -/
namespace Go.Proofs.Ytkjojpeamabdmaa
open Go Go.RowKit
/-- A slice of n numbers of one kind, below block B, that reads as xs. -/
def Sl (k : IntKind) (w : World) (B : Nat) (A : Option Addr) (n c : Nat) (xs : List Int) : Prop :=
  xs.length = n ∧ n ≤ c ∧ c ≤ maxLen ∧ (A = none → c = 0) ∧
    (0 < n → ∃ b off, A = some ⟨b, off, none⟩ ∧ b < B ∧ ∀ j x, xs[j]? = some x → w.cell? ⟨b, off + j, none⟩ = some (.int k x))
section
variable {k : IntKind} {w w' : World} {B B' : Nat} {A : Option Addr} {n c : Nat} {xs : List Int}
theorem Sl.len (h : Sl k w B A n c xs) : xs.length = n := h.1
theorem Sl.le (h : Sl k w B A n c xs) : n ≤ c := h.2.1
theorem Sl.cap (h : Sl k w B A n c xs) : c ≤ maxLen := h.2.2.1
theorem Sl.lenMax (h : Sl k w B A n c xs) : n ≤ 9223372036854775807 := by
  have h1 := h.le
  have h2 := h.cap
  unfold maxLen at h2
  omega
theorem Sl.nil : Sl k w B none 0 0 [] := ⟨rfl, Nat.le_refl _, Nat.zero_le _, fun _ => rfl, fun h => absurd h (by omega)⟩
/-- The cell at a place that is there. -/
theorem Sl.at_ (h : Sl k w B A n c xs) {j : Nat} (hj : j < n) : ∃ b off x, A = some ⟨b, off, none⟩ ∧ b < B ∧ xs[j]? = some x ∧ w.cell? ⟨b, off + j, none⟩ = some (.int k x) := by
  obtain ⟨b, off, hA, hb, hc⟩ := h.2.2.2.2 (by omega)
  have hl : j < xs.length := by have := h.1; omega
  exact ⟨b, off, xs[j], hA, hb, List.getElem?_eq_getElem hl, hc j _ (List.getElem?_eq_getElem hl)⟩
theorem Sl.keep (h : Sl k w B A n c xs) (hk : ∀ p : Addr, p.block < B → w'.cell? p = w.cell? p) : Sl k w' B A n c xs := by
  refine ⟨h.1, h.2.1, h.2.2.1, h.2.2.2.1, fun hn => ?_⟩
  obtain ⟨b, off, hA, hb, hc⟩ := h.2.2.2.2 hn
  exact ⟨b, off, hA, hb, fun j x hx => (hk _ hb).trans (hc j x hx)⟩
theorem Sl.more (h : Sl k w B A n c xs) (hB : B ≤ B') : Sl k w B' A n c xs := by
  refine ⟨h.1, h.2.1, h.2.2.1, h.2.2.2.1, fun hn => ?_⟩
  obtain ⟨b, off, hA, hb, hc⟩ := h.2.2.2.2 hn
  exact ⟨b, off, hA, by omega, hc⟩
theorem Sl.below (h : Sl k w B A n c xs) (hb : Below B' w w') (hB : B ≤ B') : Sl k w' B A n c xs := h.keep fun _ hp => hb.cell (by omega)
theorem Sl.drew (h : Sl k w B A n c xs) (m : Nat) : Sl k (w.drewN m) B A n c xs := h
theorem Sl.drew1 (h : Sl k w B A n c xs) : Sl k w.drew B A n c xs := h
theorem Sl.alloc (h : Sl k w B A n c xs) (hB : B ≤ w.heap.size) (o : Obj) : Sl k (w.alloc o) B A n c xs := h.keep fun p hp => World.cell?_alloc_lt w o p (by omega)
theorem Sl.setCell (h : Sl k w B A n c xs) {p : Addr} (hp : B ≤ p.block) (u : Value) : Sl k (w.setCell p u) B A n c xs :=
  h.keep fun q hq => World.cell?_setCell_other w p q u (fun e => by subst e; omega)
theorem Sl.grown (h : Sl k w B A n c xs) {row : Option Nat} (hg : w.grownBy w' row) (hB : B ≤ w.heap.size) (hr : ∀ g, row = some g → B ≤ g) : Sl k w' B A n c xs :=
  h.keep fun p hp => World.cell?_of_block (hg.block p.block (by omega) (fun e => by have := hr _ e.symm; omega))
end
/-- A slice of n numbers that begins at the head of a row of the call's own, from block B on. -/
def Own (k : IntKind) (e : TypeId) (w : World) (B : Nat) (A : Option Addr) (n c : Nat) (xs : List Int) : Prop :=
  w.ownsRow B e 1 (.slice A n c) n (xs.map (Value.int k))
/-- The block of a slice's address. -/
def blk (A : Option Addr) : Option Nat := A.map (·.block)
theorem ownBlock_slice (A : Option Addr) (n c : Nat) : (Value.slice A n c).ownBlock = blk A := by cases A <;> rfl
section
variable {k : IntKind} {e : TypeId} {w w' : World} {B B' : Nat} {A : Option Addr} {n c : Nat} {xs : List Int}
theorem Own.len (h : Own k e w B A n c xs) : xs.length = n := by simpa using h.1
theorem Own.nil : Own k e w B none 0 0 [] := World.ownsRow_nil _ _ _ _
theorem Own.form (h : Own k e w B A n c xs) : (A = none ∧ n = 0 ∧ c = 0) ∨ ∃ g, A = some ⟨g, 0, none⟩ ∧ B ≤ g ∧ g < w.heap.size := by
  rcases h.2 with ⟨hv, h0⟩ | ⟨g, cap, cur, hv, hb, hg, _⟩
  · injection hv with h1 h2 h3
    exact .inl ⟨h1, h0, h3⟩
  · injection hv with h1 h2 h3
    refine .inr ⟨g, h1, hb, ?_⟩
    rcases Nat.lt_or_ge g w.heap.size with hlt | hge
    · exact hlt
    · rw [Array.getElem?_eq_none hge] at hg; cases hg
theorem Own.blk_ (h : Own k e w B A n c xs) : ∀ g, blk A = some g → B ≤ g ∧ g < w.heap.size := by
  intro g hg
  rcases h.form with ⟨rfl, _⟩ | ⟨g', rfl, h1, h2⟩
  · cases hg
  · have : g' = g := by simpa [blk] using hg
    subst this
    exact ⟨h1, h2⟩
theorem Own.cap (h : Own k e w B A n c xs) : n ≤ c ∧ c ≤ maxLen := by
  rcases h.2 with ⟨hv, h0⟩ | ⟨g, cap, cur, hv, hb, hg, h1, h2, _⟩
  · injection hv with h1 h2 h3
    subst h3; subst h0
    exact ⟨Nat.le_refl _, Nat.zero_le _⟩
  · injection hv with h3 h4 h5
    subst h5
    exact ⟨h1, h2⟩
theorem Own.sl (h : Own k e w B A n c xs) : Sl k w w.heap.size A n c xs := by
  refine ⟨h.len, h.cap.1, h.cap.2, fun hA => ?_, fun hn => ?_⟩
  · rcases h.form with ⟨_, _, h0⟩ | ⟨g, rfl, _⟩
    · exact h0
    · cases hA
  · rcases h.form with ⟨_, h0, _⟩ | ⟨g, rfl, h1, h2⟩
    · omega
    · refine ⟨g, 0, rfl, h2, fun j x hx => ?_⟩
      have hj : j < n := by have := (List.getElem?_eq_some_iff.1 hx).1; have := h.len; omega
      have := World.ownsRow.cellAt h j (by omega)
      rw [Nat.zero_add, this]
      simp [hx]
theorem Own.keep (h : Own k e w B A n c xs) {row : Option Nat} (hg : w.grownBy w' row) (hne : blk A = none ∨ blk A ≠ row) : Own k e w' B A n c xs :=
  World.ownsRow.kept h hg (by rw [ownBlock_slice]; exact hne)
theorem Own.below (h : Own k e w B A n c xs) (hb : Below w.heap.size w w') : Own k e w' B A n c xs :=
  h.keep (row := none) ⟨hb.os, hb.tape, hb.output, hb.size, fun i hi _ => hb.block i hi⟩ (by cases hA : blk A <;> simp)
theorem Own.drew (h : Own k e w B A n c xs) (m : Nat) : Own k e (w.drewN m) B A n c xs := h
theorem Own.drew1 (h : Own k e w B A n c xs) : Own k e w.drew B A n c xs := h
theorem Own.alloc (h : Own k e w B A n c xs) (o : Obj) : Own k e (w.alloc o) B A n c xs := World.ownsRow.alloc h o
theorem Own.lower (h : Own k e w B A n c xs) (hB : B' ≤ B) : Own k e w B' A n c xs := by
  refine ⟨h.1, ?_⟩
  rcases h.2 with h1 | ⟨g, cap, cur, h1, h2, h3⟩
  · exact .inl h1
  · exact .inr ⟨g, cap, cur, h1, Nat.le_trans hB h2, h3⟩
/-- A store at a place that is there. -/
theorem Own.set (h : Own k e w B A n c xs) {i : Nat} (hi : i < n) : ∃ g x, A = some ⟨g, 0, none⟩ ∧ B ≤ g ∧ g < w.heap.size ∧ xs[i]? = some x ∧ w.cell? ⟨g, i, none⟩ = some (.int k x) ∧ w.frozen? ⟨g, i, none⟩ = false ∧
    ∀ y, Own k e (w.setCell ⟨g, i, none⟩ (.int k y)) B A n c (xs.set i y) ∧ w.grownBy (w.setCell ⟨g, i, none⟩ (.int k y)) (some g) := by
  rcases h.form with ⟨_, h0, _⟩ | ⟨g, rfl, h1, h2⟩
  · omega
  · have hl : i < xs.length := by have := h.len; omega
    have hcell := World.ownsRow.cellAt h i (by omega)
    refine ⟨g, xs[i], rfl, h1, h2, List.getElem?_eq_getElem hl, ?_, World.ownsRow.frozenAt h i, fun y => ?_⟩
    · rw [hcell]; simp [hl]
    · have := World.ownsRow.stored h i (.int k y)
      unfold Own
      rw [List.map_set]
      exact this
end
theorem Sl.news {k : IntKind} {w : World} {B : Nat} {ad : Addr} {n c : Nat} {xs : List Int} (h : Sl k w B (some ad) n c xs) : ∀ j u, (xs.map (Value.int k))[j]? = some u → w.cell? (ad.add j) = some u := by
  intro j u hu
  rw [List.getElem?_map] at hu
  obtain ⟨x, hx, rfl⟩ := Option.map_eq_some_iff.1 hu
  have hj : j < n := by have := (List.getElem?_eq_some_iff.1 hx).1; have := h.1; omega
  obtain ⟨b, off, hA, _, hc⟩ := h.2.2.2.2 (by omega)
  injection hA with hA
  subst hA
  rw [Addr.add_lit]
  exact hc j x hx
/-- A row of the call's own that is being written; of what was there when the call began nothing has turned. -/
def Mk (k : IntKind) (e : TypeId) (w : World) (A : Option Addr) (n c : Nat) (xs : List Int) (wr : World) : Prop :=
  Own k e wr w.heap.size A n c xs ∧ Below w.heap.size w wr
section
variable {k : IntKind} {e : TypeId} {w w' wr : World} {A : Option Addr} {n c : Nat} {xs : List Int}
theorem Mk.drew (h : Mk k e w A n c xs wr) (m : Nat) : Mk k e w A n c xs (wr.drewN m) := ⟨h.1, ⟨h.2.os, h.2.tape, h.2.output, h.2.size, h.2.block⟩⟩
theorem Mk.below (h : Mk k e w A n c xs wr) (hb : Below wr.heap.size wr w') : Mk k e w A n c xs w' := ⟨h.1.below hb, h.2.trans (hb.mono h.2.size)⟩
theorem Mk.set (h : Mk k e w A n c xs wr) {i : Nat} (hi : i < n) : ∃ g x, A = some ⟨g, 0, none⟩ ∧ w.heap.size ≤ g ∧ xs[i]? = some x ∧ wr.cell? ⟨g, i, none⟩ = some (.int k x) ∧ wr.frozen? ⟨g, i, none⟩ = false ∧
    ∀ y, Mk k e w A n c (xs.set i y) (wr.setCell ⟨g, i, none⟩ (.int k y)) := by
  obtain ⟨g, x, h1, h2, _, h4, h5, h6, h7⟩ := h.1.set hi
  exact ⟨g, x, h1, h2, h4, h5, h6, fun y => ⟨(h7 y).1, h.2.setCell h2 _⟩⟩
end
theorem size_one (w : World) (o : Obj) : (w.alloc o).heap.size = w.heap.size + 1 := Array.size_push ..
theorem Own.lit (k : IntKind) (e : TypeId) (w : World) {B : Nat} (hB : B ≤ w.heap.size) (xs : List Int) (n : Nat) (hn : xs.length = n) (hm : n ≤ 1000) : Own k e (w.alloc (.cells (xs.map (Value.int k)).toArray e)) B (some ⟨w.heap.size, 0, none⟩) n n xs := by
  have := World.ownsRow_lit (base := B) (e := e) (size := 1) w (xs.map (Value.int k)).toArray n hB (by unfold maxLen; omega) (by simp [hn])
  simpa [Own] using this
theorem Own.apart {k k' : IntKind} {e e' : TypeId} {w1 w2 : World} {B B' : Nat} {A A' : Option Addr} {n n' c c' : Nat} {xs ys : List Int} (h : Own k e w1 B A n c xs) (h' : Own k' e' w2 B' A' n' c' ys) (hB : w1.heap.size ≤ B') : blk A' = none ∨ blk A' ≠ blk A := by
  rcases h'.form with ⟨rfl, _⟩ | ⟨g, rfl, hg, _⟩
  · exact .inl rfl
  · refine .inr fun hne => ?_
    have := (h.blk_ g hne.symm).2
    omega
end Go.Proofs.Ytkjojpeamabdmaa
/- Plain maths of long division with a guessed digit. No program stands in it. -/
namespace Go.Proofs.Ytkjojpeamabdmaa
/-- The digit, by what is left. -/
theorem quo_eq {U V q r : Int} (h : U = q * V + r) (h0 : 0 ≤ r) (h1 : r < V) : U / V = q ∧ U % V = r := by
  subst h
  rw [Int.add_comm, Int.add_mul_ediv_right _ _ (by omega), Int.add_mul_emod_self_right, Int.ediv_eq_zero_of_lt h0 h1, Int.emod_eq_of_lt h0 h1]
  omega
/-- Behind i digits of S with x times X added (σ = 1) or taken away (σ = -1) from place o on, cr carried. -/
structure Mac (β σ x : Int) (S X S1 : List Int) (o i : Nat) (cr : Int) : Prop where
  dg : Dg β S1
  len : S1.length = S.length
  low : S1.take o = S.take o
  rest : S1.drop (o + i) = S.drop (o + i)
  num : val β (S1.take (o + i)) + σ * (β ^ (o + i) * cr) = val β (S.take (o + i)) + σ * (β ^ o * (x * val β (X.take i)))
theorem Mac.start {β σ x : Int} {S X : List Int} {o : Nat} (h : Dg β S) : Mac β σ x S X S o 0 0 := ⟨h, rfl, rfl, rfl, by simp [val]⟩
theorem Mac.at_ {β σ x : Int} {S X S1 : List Int} {o i : Nat} {cr : Int} (h : Mac β σ x S X S1 o i cr) : S1[o + i]? = S[o + i]? := by
  have := congrArg (fun l => l[0]?) h.rest
  simpa using this
theorem Mac.step {β σ x : Int} {S X S1 : List Int} {o i : Nat} {cr s y d cr' : Int} (h : Mac β σ x S X S1 o i cr) (hs : S1[o + i]? = some s) (hy : X[i]? = some y)
    (hd : 0 ≤ d ∧ d < β) (e : d + σ * (β * cr') = s + σ * (x * y + cr)) : Mac β σ x S X (S1.set (o + i) d) o (i + 1) cr' := by
  have hi := lt_of_get hs
  have hS : S[o + i]? = some s := by rw [← h.at_]; exact hs
  have hd' : (S1.set (o + i) d)[o + i]? = some d := by simp [hi]
  refine ⟨h.dg.set hd, by simp [h.len], by rw [List.take_set_of_le (by omega), h.low], ?_, ?_⟩
  · rw [← Nat.add_assoc, List.drop_set_of_lt (by omega)]
    have := congrArg (List.drop 1) h.rest
    simpa [List.drop_drop, Nat.add_assoc] using this
  · rw [← Nat.add_assoc, take_succ_of hd', take_succ_of hS, take_succ_of hy, List.take_set_of_le (by omega), val_snoc, val_snoc, val_snoc, List.length_take, List.length_take, List.length_take,
      Nat.min_eq_left (by omega), Nat.min_eq_left (by have := lt_of_get hS; omega), Nat.min_eq_left (by have := lt_of_get hy; omega)]
    have hn := h.num
    have e1 : β ^ (o + i) * (d + σ * (β * cr')) = β ^ (o + i) * (s + σ * (x * y + cr)) := by rw [e]
    have e2 : β ^ (o + i) = β ^ o * β ^ i := Int.pow_add _ _ _
    rw [Int.pow_succ]
    grind
theorem Mac.stop {β σ x : Int} {S X S1 : List Int} {o i : Nat} {cr : Int} (h : Mac β σ x S X S1 o i cr) (hX : X.length = i) (hi : o + i ≤ S.length) :
    val β S1 + σ * (β ^ (o + i) * cr) = val β S + σ * (β ^ o * (x * val β X)) := by
  have hn := h.num
  rw [List.take_of_length_le (l := X) (by omega)] at hn
  have a : val β S1 = val β (S1.take (o + i)) + β ^ (o + i) * val β (S1.drop (o + i)) := by
    conv => lhs; rw [← List.take_append_drop (o + i) S1]
    rw [val_append, List.length_take, Nat.min_eq_left (by have := h.len; omega)]
  have b : val β S = val β (S.take (o + i)) + β ^ (o + i) * val β (S.drop (o + i)) := by
    conv => lhs; rw [← List.take_append_drop (o + i) S]
    rw [val_append, List.length_take, Nat.min_eq_left (by omega)]
  rw [a, b, h.rest]
  omega
/-- One digit more, put where there was one. -/
theorem val_set {β : Int} {S : List Int} {k : Nat} {s d : Int} (hs : S[k]? = some s) : val β (S.set k d) = val β S + β ^ k * (d - s) := by
  have hk := lt_of_get hs
  have hd : (S.set k d)[k]? = some d := by simp [hk]
  have e1 := congrArg (val β) (getElem?_split hs)
  have e2 := congrArg (val β) (getElem?_split hd)
  rw [e1, e2, val_append, val_append, List.take_set_of_le (by omega), List.drop_set_of_lt (by omega), List.length_take, Nat.min_eq_left (by omega)]
  simp only [val]
  grind
/-- A product, digit row by digit row: X's first i taken so far; noughts stand behind. -/
structure MulI (β : Int) (X Y P : List Int) (i : Nat) : Prop where
  dg : Dg β P
  len : P.length = X.length + Y.length
  num : val β P = val β (X.take i) * val β Y
  zero : P.drop (i + Y.length) = List.replicate (X.length - i) 0
theorem MulI.start {β : Int} (hβ : 0 < β) (X Y : List Int) : MulI β X Y (List.replicate (X.length + Y.length) 0) 0 :=
  ⟨Dg.zeros hβ _, by simp, by simp [val, val_zeros], by simp⟩
theorem MulI.step {β : Int} (hβ : 0 < β) {X Y P S1 : List Int} {i : Nat} {x cr : Int} (h : MulI β X Y P i) (hx : X[i]? = some x) (hm : Mac β 1 x P Y S1 i Y.length cr) (hc : 0 ≤ cr ∧ cr < β) :
    S1[i + Y.length]? = some 0 ∧ MulI β X Y (S1.set (i + Y.length) cr) (i + 1) := by
  have hi := lt_of_get hx
  have hz : S1[i + Y.length]? = some 0 := by
    have := congrArg (fun l => l[0]?) (hm.rest.trans h.zero)
    simp only [List.getElem?_drop, Nat.add_zero, List.getElem?_replicate] at this
    rw [this, if_pos (by omega)]
  refine ⟨hz, hm.dg.set hc, by simp [hm.len, h.len], ?_, ?_⟩
  · have hs := hm.stop rfl (by have := h.len; omega)
    rw [val_set hz, val_take_next, hx, Option.getD_some]
    have hn := h.num
    grind
  · rw [List.drop_set_of_lt (by omega), show i + 1 + Y.length = (i + Y.length) + 1 by omega, ← List.drop_drop, hm.rest, h.zero, List.drop_replicate]
    rfl
theorem val_split (β : Int) (L : List Int) {k : Nat} (hk : k ≤ L.length) : val β L = val β (L.take k) + β ^ k * val β (L.drop k) := by
  conv => lhs; rw [← List.take_append_drop k L]
  rw [val_append, List.length_take, Nat.min_eq_left hk]
theorem val_head (β : Int) {L : List Int} {k : Nat} {x : Int} (h : L[k]? = some x) : val β (L.drop k) = x + β * val β (L.drop (k + 1)) := by
  rw [drop_of h]; rfl
theorem Mac.high {β σ x : Int} (hβ : 0 < β) {S X S1 : List Int} {o i : Nat} {cr : Int} (h : Mac β σ x S X S1 o i cr) (hX : X.length = i) (hi : o + i ≤ S.length) :
    val β (S1.drop o) + σ * (β ^ i * cr) = val β (S.drop o) + σ * (x * val β X) := by
  have e := h.stop hX hi
  rw [val_split β S1 (k := o) (by have := h.len; omega), val_split β S (k := o) (by omega), h.low, Int.pow_add] at e
  have p := pow_pos' hβ o
  refine Int.eq_of_mul_eq_mul_left (show β ^ o ≠ 0 by omega) ?_
  rw [Int.mul_add, Int.mul_add]
  grind
/-- S2 is S with d times V put to it (σ = 1) or taken from it (σ = -1) from place o on, over m + 1 digits; b is carried out of them. -/
structure Took (β σ d V : Int) (S S2 : List Int) (o m : Nat) (b : Int) : Prop where
  dg : Dg β S2
  len : S2.length = S.length
  low : S2.take o = S.take o
  rest : S2.drop (o + m + 1) = S.drop (o + m + 1)
  b01 : 0 ≤ b ∧ b ≤ 1
  num : val β (S2.drop o) + σ * (β ^ (m + 1) * b) = val β (S.drop o) + σ * (d * V)
theorem top_zero {β : Int} (hβ : 0 < β) {S : List Int} (h : Dg β S) {o m : Nat} (hl : o + m + 1 ≤ S.length) (hW : val β (S.drop o) < β ^ (m + 1)) : val β (S.drop (o + m + 1)) = 0 := by
  rw [val_split β (S.drop o) (k := m + 1) (by rw [List.length_drop]; omega), List.drop_drop, ← Nat.add_assoc] at hW
  have h1 := val_nonneg hβ ((h.drop o).take (m + 1))
  have h2 := val_nonneg hβ (h.drop (o + m + 1))
  have p := pow_pos' hβ (m + 1)
  rcases Int.lt_or_le 0 (val β (S.drop (o + m + 1))) with h3 | h3
  · have : β ^ (m + 1) * 1 ≤ β ^ (m + 1) * val β (S.drop (o + m + 1)) := Int.mul_le_mul_of_nonneg_left (by omega) (by omega)
    omega
  · omega
/-- One digit of the quotient taken: d, and what is left of the row from o on. -/
structure DigR (β V : Int) (S S2 : List Int) (o : Nat) (d : Int) : Prop where
  dg : Dg β S2
  len : S2.length = S.length
  low : S2.take o = S.take o
  quo : d = val β (S.drop o) / V
  left : val β (S2.drop o) = val β (S.drop o) % V
theorem Took.down {β V : Int} (hβ : 0 < β) {S S2 : List Int} {o m : Nat} {d : Int} (h : Took β (-1) d V S S2 o m 0) (hV : 0 < V) (hg : d = val β (S.drop o) / V ∨ d = val β (S.drop o) / V + 1) : DigR β V S S2 o d := by
  have hn := h.num
  have h0 := val_nonneg hβ (h.dg.drop o)
  have e1 := Int.mul_ediv_add_emod (val β (S.drop o)) V
  have e2 := Int.emod_nonneg (val β (S.drop o)) (show V ≠ 0 by omega)
  have e3 := Int.emod_lt_of_pos (val β (S.drop o)) hV
  have hq : d = val β (S.drop o) / V := by
    rcases hg with h | h
    · exact h
    · have : d * V = V * (val β (S.drop o) / V) + V := by rw [h, Int.add_mul, Int.one_mul, Int.mul_comm]
      simp only [Int.mul_zero, Int.add_zero] at hn
      omega
  refine ⟨h.dg, h.len, h.low, hq, ?_⟩
  have : d * V = V * (val β (S.drop o) / V) := by rw [hq, Int.mul_comm]
  simp only [Int.mul_zero, Int.add_zero] at hn
  omega
/-- What a guess knows: f, s the divisor's first two digits, hi and u the row's first two and its third, q the digit. -/
structure GuessE (f s hi u q : Int) : Prop where
  hf : 2147483648 ≤ f ∧ f < 4294967296
  hs : 0 ≤ s ∧ s < 4294967296
  hu : 0 ≤ u ∧ u < 4294967296
  hh : 0 ≤ hi ∧ hi ≤ f * 4294967296 + 4294967295
  hq : 0 ≤ q ∧ q < 4294967296
  low : q * (f * 4294967296 + s) ≤ hi * 4294967296 + u
  up : hi * 4294967296 + u < (q + 1) * (f * 4294967296 + s + 1)
structure GuessI (f hi q d r : Int) : Prop where
  sum : d * f + r = hi
  r0 : 0 ≤ r
  ge : q ≤ d
theorem GuessE.start {f s hi u q : Int} (h : GuessE f s hi u q) : GuessI f hi q (hi / f) (hi % f) := by
  have hf := h.hf
  refine ⟨?_, Int.emod_nonneg _ (by omega), ?_⟩
  · have := Int.mul_ediv_add_emod hi f
    rw [Int.mul_comm]; exact this
  · refine (Int.le_ediv_iff_mul_le (by omega)).2 ?_
    have h1 := h.low
    have h2 := h.hu
    have h3 : 0 ≤ q * s := Int.mul_nonneg h.hq.1 h.hs.1
    have h4 : q * (f * 4294967296 + s) = q * f * 4294967296 + q * s := by rw [Int.mul_add, Int.mul_assoc]
    omega
theorem GuessE.bound {f s hi u q d r : Int} (h : GuessE f s hi u q) (hi' : GuessI f hi q d r) : 0 ≤ d ∧ d ≤ 4294967297 ∧ 0 ≤ r ∧ r ≤ 18446744073709551615 := by
  have h1 := hi'.sum
  have h2 := hi'.r0
  have h3 := hi'.ge
  have h4 := h.hq
  have h5 := h.hf
  have h6 := h.hh
  have h7 : 0 ≤ d * f := Int.mul_nonneg (by omega) (by omega)
  refine ⟨by omega, ?_, h2, by omega⟩
  rcases Int.lt_or_le 4294967297 d with h8 | h8
  · have : 4294967298 * f ≤ d * f := Int.mul_le_mul_of_nonneg_right (by omega) (by omega)
    omega
  · exact h8
theorem GuessE.done {f s hi u q d r : Int} (h : GuessE f s hi u q) (hi' : GuessI f hi q d r) (ht : d * s ≤ r * 4294967296 + u) : d = q ∨ d = q + 1 := by
  have h1 := hi'.sum
  have h3 := hi'.ge
  rcases Int.lt_or_le (q + 1) d with hlt | hle
  · exfalso
    have e1 : (q + 2) * (f * 4294967296 + s) ≤ d * (f * 4294967296 + s) := Int.mul_le_mul_of_nonneg_right (by omega) (by have := h.hs; have := h.hf; omega)
    have e2 : d * (f * 4294967296 + s) = d * f * 4294967296 + d * s := by rw [Int.mul_add, Int.mul_assoc]
    have e3 : (q + 2) * (f * 4294967296 + s) = (q + 1) * (f * 4294967296 + s + 1) + (f * 4294967296 + s) - (q + 1) := by
      rw [Int.mul_add (q + 1) _ 1, show q + 2 = (q + 1) + 1 by omega, Int.add_mul (q + 1) 1]; omega
    have := h.up
    have := h.hq
    have := h.hf
    have := h.hs
    omega
  · omega
/-- The same of two rows. -/
theorem GuessE.of {S X : List Int} {o p : Nat} {f s u0 u1 u2 : Int} (hS : Dg 4294967296 S) (hX : Dg 4294967296 X) (hl : X.length = p + 2) (ef : X[p + 1]? = some f) (es : X[p]? = some s) (hf : 2147483648 ≤ f)
    (e0 : S[o + p + 2]? = some u0) (e1 : S[o + p + 1]? = some u1) (e2 : S[o + p]? = some u2) (hW : val 4294967296 (S.drop o) < 4294967296 * val 4294967296 X) :
    0 < val 4294967296 X ∧ val 4294967296 (S.drop o) < 4294967296 ^ (p + 2 + 1) ∧ GuessE f s (u0 * 4294967296 + u1) u2 (val 4294967296 (S.drop o) / val 4294967296 X) := by
  have lS := lt_of_get e0
  have df := hX.get ef
  have ds := hX.get es
  have d0 := hS.get e0
  have d1 := hS.get e1
  have d2 := hS.get e2
  have hXv : val 4294967296 X = val 4294967296 (X.take p) + 4294967296 ^ p * (f * 4294967296 + s) := by
    rw [val_split 4294967296 X (k := p) (by omega), val_head _ es, val_head _ ef, List.drop_of_length_le (by omega)]
    simp only [val]
    congr 2
    omega
  have x0 := val_nonneg (β := 4294967296) (by decide) (hX.take p)
  have x1 := val_lt (β := 4294967296) (by decide) (hX.take p)
  rw [List.length_take, Nat.min_eq_left (by omega)] at x1
  have p0 := pow_pos' (show (0 : Int) < 4294967296 by decide) p
  have hV : 0 < val 4294967296 X := by
    have : 4294967296 ^ p * 1 ≤ 4294967296 ^ p * (f * 4294967296 + s) := Int.mul_le_mul_of_nonneg_left (by omega) (by omega)
    omega
  have hXlt : val 4294967296 X < 4294967296 ^ (p + 2) := by rw [← hl]; exact val_lt (by decide) hX
  have hW2 : val 4294967296 (S.drop o) < 4294967296 ^ (p + 2 + 1) := by rw [Int.pow_succ]; omega
  have hz := top_zero (β := 4294967296) (by decide) hS (o := o) (m := p + 2) (by omega) hW2
  have hSv : val 4294967296 (S.drop o) = val 4294967296 ((S.drop o).take p) + 4294967296 ^ p * ((u0 * 4294967296 + u1) * 4294967296 + u2) := by
    rw [val_split 4294967296 (S.drop o) (k := p) (by rw [List.length_drop]; omega), List.drop_drop, val_head _ e2, val_head _ e1]
    have : val 4294967296 (S.drop (o + p + 1 + 1)) = u0 + 4294967296 * 0 := by rw [← hz]; exact val_head _ e0
    rw [this]
    congr 2
    omega
  have s0 := val_nonneg (β := 4294967296) (by decide) ((hS.drop o).take p)
  have s1 := val_lt (β := 4294967296) (by decide) ((hS.drop o).take p)
  rw [List.length_take, Nat.min_eq_left (by rw [List.length_drop]; omega)] at s1
  have W0 := val_nonneg (β := 4294967296) (by decide) (hS.drop o)
  have q0 : 0 ≤ val 4294967296 (S.drop o) / val 4294967296 X := Int.ediv_nonneg W0 (by omega)
  have q1 : val 4294967296 (S.drop o) / val 4294967296 X < 4294967296 := Int.ediv_lt_of_lt_mul hV (by rw [Int.mul_comm] at hW; rw [Int.mul_comm]; omega)
  have qlo := Int.ediv_mul_le (val 4294967296 (S.drop o)) (show val 4294967296 X ≠ 0 by omega)
  have qhi := Int.lt_ediv_add_one_mul_self (val 4294967296 (S.drop o)) hV
  refine ⟨hV, hW2, ⟨⟨hf, df.2⟩, ds, d2, ⟨by omega, ?_⟩, ⟨q0, q1⟩, ?_, ?_⟩⟩
  · have hh : (4294967296 : Int) ^ p * ((u0 * 4294967296 + u1) * 4294967296 + u2) < 4294967296 ^ p * (4294967296 * (f * 4294967296 + s + 1)) := by
      have : (4294967296 : Int) ^ p * (4294967296 * (f * 4294967296 + s + 1)) = 4294967296 * (4294967296 ^ p * (f * 4294967296 + s)) + 4294967296 * 4294967296 ^ p := by grind
      omega
    have := Int.lt_of_mul_lt_mul_left hh (by omega)
    omega
  · generalize val 4294967296 (S.drop o) / val 4294967296 X = q at *
    have hh : (4294967296 : Int) ^ p * (q * (f * 4294967296 + s)) < 4294967296 ^ p * ((u0 * 4294967296 + u1) * 4294967296 + u2 + 1) := by
      have a1 : 0 ≤ q * val 4294967296 (X.take p) := Int.mul_nonneg q0 x0
      have a2 : q * val 4294967296 X = q * val 4294967296 (X.take p) + 4294967296 ^ p * (q * (f * 4294967296 + s)) := by rw [hXv]; grind
      rw [Int.mul_add _ _ 1]
      omega
    have := Int.lt_of_mul_lt_mul_left hh (by omega)
    omega
  · generalize val 4294967296 (S.drop o) / val 4294967296 X = q at *
    have hh : (4294967296 : Int) ^ p * ((u0 * 4294967296 + u1) * 4294967296 + u2) < 4294967296 ^ p * ((q + 1) * (f * 4294967296 + s + 1)) := by
      have a1 : (q + 1) * val 4294967296 (X.take p) ≤ (q + 1) * 4294967296 ^ p := Int.mul_le_mul_of_nonneg_left (by omega) (by omega)
      have a2 : (q + 1) * val 4294967296 X = (q + 1) * val 4294967296 (X.take p) + 4294967296 ^ p * ((q + 1) * (f * 4294967296 + s)) := by rw [hXv]; grind
      have a3 : (4294967296 : Int) ^ p * ((q + 1) * (f * 4294967296 + s + 1)) = 4294967296 ^ p * ((q + 1) * (f * 4294967296 + s)) + (q + 1) * 4294967296 ^ p := by grind
      omega
    exact Int.lt_of_mul_lt_mul_left hh (by omega)
/-- Long division down to place k: Q the quotient's digits, U what is left. -/
structure DivJ (β V : Int) (U0 U Q : List Int) (k : Nat) : Prop where
  dgU : Dg β U
  lenU : U.length = U0.length
  dgQ : Dg β Q
  low : U.take k = U0.take k
  left : val β (U.drop k) < V
  num : val β U0 = val β (U0.take k) + β ^ k * (val β (Q.drop k) * V + val β (U.drop k))
theorem DivJ.start {β V : Int} {U0 Q : List Int} {k : Nat} (h : Dg β U0) (hQ : Dg β Q) (hk : k ≤ U0.length) (hQl : Q.length ≤ k) (hl : val β (U0.drop k) < V) : DivJ β V U0 U0 Q k := by
  refine ⟨h, rfl, hQ, rfl, hl, ?_⟩
  rw [List.drop_of_length_le hQl]
  simp only [val, Int.zero_mul, Int.zero_add]
  exact val_split β U0 hk
theorem DivJ.fits {β V : Int} (hβ : 0 < β) {U0 U Q : List Int} {j : Nat} (h : DivJ β V U0 U Q (j + 1)) (hj : j < U.length) : val β (U.drop j) < β * V := by
  obtain ⟨u, hu⟩ := get_of_lt hj
  rw [val_head β hu]
  have h1 := h.left
  have h2 := h.dgU.get hu
  have h3 : β * val β (U.drop (j + 1)) ≤ β * (V - 1) := Int.mul_le_mul_of_nonneg_left (by omega) (by omega)
  rw [Int.mul_sub] at h3
  omega
theorem DivJ.step {β V : Int} (hβ : 0 < β) {U0 U U' Q : List Int} {j : Nat} {d : Int} (h : DivJ β V U0 U Q (j + 1)) (hj : j < U.length) (hQ : j < Q.length) (hV : 0 < V) (hr : DigR β V U U' j d) : DivJ β V U0 U' (Q.set j d) j := by
  obtain ⟨u, hu⟩ := get_of_lt hj
  have hf := h.fits hβ hj
  have h0 := val_nonneg hβ (h.dgU.drop j)
  have hd : 0 ≤ d ∧ d < β := by
    rw [hr.quo]
    exact ⟨Int.ediv_nonneg h0 (by omega), Int.ediv_lt_of_lt_mul hV hf⟩
  have hlow : U.take j = U0.take j := by
    have := congrArg (List.take j) h.low
    simpa [List.take_take, Nat.min_eq_left (show j ≤ j + 1 by omega)] using this
  have hu0 : U0[j]? = some u := by
    have := congrArg (fun l => l[j]?) h.low
    simp only [List.getElem?_take] at this
    rw [if_pos (by omega), if_pos (by omega)] at this
    rw [← this]; exact hu
  refine ⟨hr.dg, hr.len.trans h.lenU, h.dgQ.set hd, hr.low.trans hlow, ?_, ?_⟩
  · rw [hr.left]; exact Int.emod_lt_of_pos _ hV
  · have hd' : (Q.set j d)[j]? = some d := by simp [hQ]
    have hn := h.num
    rw [take_succ_of hu0, val_snoc, List.length_take, Nat.min_eq_left (by have := h.lenU; omega)] at hn
    rw [val_head β hd', List.drop_set_of_lt (by omega), hr.left]
    have e1 := Int.mul_ediv_add_emod (val β (U.drop j)) V
    rw [← hr.quo] at e1
    have e2 := val_head β hu
    rw [Int.pow_succ] at hn
    grind
theorem DivJ.done {β V : Int} (hβ : 0 < β) {U0 U Q : List Int} (h : DivJ β V U0 U Q 0) : val β Q = val β U0 / V ∧ val β U = val β U0 % V := by
  have hn := h.num
  have hl := h.left
  simp only [List.drop_zero, List.take_zero, Int.pow_zero, Int.one_mul, val, Int.zero_add] at hn hl
  have := quo_eq hn (val_nonneg hβ h.dgU) hl
  exact ⟨this.1.symm, this.2.symm⟩
end Go.Proofs.Ytkjojpeamabdmaa
/- Plain maths of the greatest divisor: Euclid's steps, and several of them told by the first words alone. No program stands in it. -/
namespace Go.Proofs.Ytkjojpeamabdmaa
def gcdI (a b : Int) : Int := Nat.gcd a.toNat b.toNat
/-- A chain of divisions of a0 by b0: a and b are the last two rests, v and n what of a0 and b0 each counts; so they are of all A and B that begin so. -/
structure Turn (a0 b0 a b vA vB nA nB s : Int) : Prop where
  hs : s = 1 ∨ s = -1
  ra : a = s * (vA * a0 - vB * b0)
  rb : b = -s * (nA * a0 - nB * b0)
  det : vA * nB - nA * vB = s
  v0 : 0 ≤ vA ∧ 0 ≤ vB
  n0 : 0 ≤ nA ∧ 1 ≤ nB
  le : nA ≤ nB
  up : vB ≤ nB
  ord : 0 ≤ b ∧ b ≤ a
  first : (vA = 1 ∧ vB = 0 ∧ nA = 0 ∧ nB = 1 ∧ s = 1) ∨ vA ≤ vB
  cap : ∀ A B K : Int, 0 < K → a0 * K ≤ A → A < a0 * K + K → b0 * K ≤ B → B < b0 * K + K → vB ≠ 0 → s * (vA * A - vB * B) ≤ B
theorem Turn.start {a0 b0 : Int} (h0 : 0 ≤ b0) (h : b0 ≤ a0) : Turn a0 b0 a0 b0 1 0 0 1 1 :=
  ⟨.inl rfl, by omega, by omega, by decide, by decide, by decide, by decide, by decide, ⟨h0, h⟩, .inl ⟨rfl, rfl, rfl, rfl, rfl⟩, fun _ _ _ _ _ _ _ _ h => absurd rfl h⟩
theorem Turn.sum {a0 b0 a b vA vB nA nB s : Int} (h : Turn a0 b0 a b vA vB nA nB s) : a * nB + b * vB = a0 := by
  have e := h.det
  have hss : s * s = 1 := by rcases h.hs with h | h <;> rw [h] <;> rfl
  have : a0 = s * s * a0 := by rw [hss, Int.one_mul]
  rw [h.ra, h.rb]
  rw [← e] at this ⊢
  grind
/-- What a round asks ahead: both of the last rests are sure. -/
theorem Turn.sure {a0 b0 a b vA vB nA nB s : Int} (h : Turn a0 b0 a b vA vB nA nB s) (g1 : nB ≤ b) (g2 : vB + nB ≤ a - b) {A B K : Int} (hK : 0 < K) (hA : a0 * K ≤ A) (hA' : A < a0 * K + K) (hB : b0 * K ≤ B) (hB' : B < b0 * K + K) :
    0 ≤ -s * (nA * A - nB * B) ∧ -s * (nA * A - nB * B) < s * (vA * A - vB * B) := by
  obtain ⟨α, rfl⟩ : ∃ α, A = a0 * K + α := ⟨A - a0 * K, by omega⟩
  obtain ⟨β, rfl⟩ : ∃ β, B = b0 * K + β := ⟨B - b0 * K, by omega⟩
  have hα : 0 ≤ α ∧ α < K := by omega
  have hβ : 0 ≤ β ∧ β < K := by omega
  have hv := h.v0
  have hn := h.n0
  have e1 : -s * (nA * (a0 * K + α) - nB * (b0 * K + β)) = b * K - s * (nA * α) + s * (nB * β) := by rw [h.rb]; grind
  have e2 : s * (vA * (a0 * K + α) - vB * (b0 * K + β)) = a * K + s * (vA * α) - s * (vB * β) := by rw [h.ra]; grind
  have m1 : nB * K ≤ b * K := Int.mul_le_mul_of_nonneg_right g1 (by omega)
  have m2 : (vB + nB) * K ≤ (a - b) * K := Int.mul_le_mul_of_nonneg_right g2 (by omega)
  rw [Int.add_mul, Int.sub_mul] at m2
  have n1 : 0 ≤ nA * α := Int.mul_nonneg hn.1 hα.1
  have n2 : 0 ≤ nB * β := Int.mul_nonneg (by omega) hβ.1
  have n3 : 0 ≤ vA * α := Int.mul_nonneg hv.1 hα.1
  have n4 : 0 ≤ vB * β := Int.mul_nonneg hv.2 hβ.1
  have k1 : nA * α ≤ nB * α := Int.mul_le_mul_of_nonneg_right h.le hα.1
  have k2 : nB * (α + 1) ≤ nB * K := Int.mul_le_mul_of_nonneg_left (by omega) (by omega)
  have k3 : nB * (β + 1) ≤ nB * K := Int.mul_le_mul_of_nonneg_left (by omega) (by omega)
  have k4 : vB * β ≤ vB * K := Int.mul_le_mul_of_nonneg_left (by omega) hv.2
  have k5 : vB * α ≤ vB * K := Int.mul_le_mul_of_nonneg_left (by omega) hv.2
  rw [Int.mul_add] at k2 k3
  rw [e1, e2]
  rcases h.hs with hs1 | hs1
  · rw [hs1]
    omega
  · have k6 : vA * α ≤ vB * α := by
      rcases h.first with ⟨_, _, _, _, h1⟩ | h1
      · omega
      · exact Int.mul_le_mul_of_nonneg_right h1 hα.1
    rw [hs1]
    omega
theorem Turn.bound {a0 b0 a b vA vB nA nB s : Int} (h : Turn a0 b0 a b vA vB nA nB s) (g1 : nB ≤ b) (ha : a0 < 18446744073709551616) : nB < 4294967296 ∧ 0 ≤ vB + nB ∧ vB + nB < 18446744073709551616 ∧ 1 ≤ b ∧ vA ≤ 4294967295 := by
  have hn := h.n0
  have hv := h.v0
  have hs := h.sum
  have ho := h.ord
  have m1 : nB * nB ≤ a * nB := Int.mul_le_mul_of_nonneg_right (by omega) (by omega)
  have m2 : 1 * vB ≤ b * vB := Int.mul_le_mul_of_nonneg_right (by omega) hv.2
  have m3 : 1 * nB ≤ a * nB := Int.mul_le_mul_of_nonneg_right (by omega) (by omega)
  have hlt : nB < 4294967296 := by
    rcases Int.lt_or_le nB 4294967296 with h | h
    · exact h
    · have : 4294967296 * 4294967296 ≤ nB * nB := Int.mul_le_mul h h (by omega) (by omega)
      omega
  have hu := h.up
  refine ⟨hlt, by omega, by omega, by omega, ?_⟩
  rcases h.first with h1 | h1 <;> omega
theorem Turn.step {a0 b0 a b vA vB nA nB s : Int} (h : Turn a0 b0 a b vA vB nA nB s) (g1 : nB ≤ b) (g2 : vB + nB ≤ a - b) (ha : a0 < 18446744073709551616) :
    Turn a0 b0 b (a % b) nA nB (vA + a / b * nA) (vB + a / b * nB) (-s) ∧ (0 ≤ a / b * nA ∧ vA + a / b * nA < 18446744073709551616) ∧ (0 ≤ a / b * nB ∧ vB + a / b * nB < 18446744073709551616) ∧ 0 ≤ a / b ∧ a / b < 18446744073709551616 := by
  have hn := h.n0
  have hv := h.v0
  have ho := h.ord
  have hb : 0 < b := by omega
  have hq1 : 1 ≤ a / b := (Int.le_ediv_iff_mul_le hb).2 (by omega)
  have hr0 := Int.emod_nonneg a (show b ≠ 0 by omega)
  have hr1 := Int.emod_lt_of_pos a hb
  have hqr := Int.mul_ediv_add_emod a b
  have hsum := h.sum
  have hu := h.up
  have hle := h.le
  have q1 : 1 * nB ≤ a / b * nB := Int.mul_le_mul_of_nonneg_right hq1 (by omega)
  have q2 : 0 ≤ a / b * nA := Int.mul_nonneg (by omega) hn.1
  have q3 : a / b * nA ≤ a / b * nB := Int.mul_le_mul_of_nonneg_left hle (by omega)
  have q4 : a / b * 1 ≤ a / b * nB := Int.mul_le_mul_of_nonneg_left hn.2 (by omega)
  have hsr : -s = 1 ∨ -s = -1 := by rcases h.hs with h | h <;> omega
  have hfi : vA + a / b * nA ≤ vB + a / b * nB := by
    rcases h.first with ⟨h1, h2, h3, h4, _⟩ | h1
    · subst h1 h2 h3 h4; omega
    · omega
  have hT : Turn a0 b0 b (a % b) nA nB (vA + a / b * nA) (vB + a / b * nB) (-s) := by
    have e1 := h.ra
    have e2 := h.rb
    have e3 := h.det
    generalize hq : a / b = q at *
    have er : a % b = a - b * q := by omega
    refine ⟨hsr, by rw [e2], ?_, ?_, ⟨hn.1, by omega⟩, ⟨by omega, by omega⟩, hfi, by omega, ⟨hr0, by omega⟩, .inr hle, ?_⟩
    · rw [er, e1]
      conv => lhs; rw [e2]
      grind
    · rw [← e3]; grind
    · intro A B K hK hA hA' hB hB' _
      have h1 := h.sure g1 g2 hK hA hA' hB hB'
      rcases (show vB = 0 ∨ vB ≠ 0 by omega) with hz | hz
      · rcases h.first with ⟨h3, h4, h5, h6, h7⟩ | h3
        · subst h5 h6 h7; omega
        · have : vA = 0 := by omega
          rw [this, hz] at e3
          simp at e3
          rcases h.hs with h | h <;> omega
      · have := h.cap A B K hK hA hA' hB hB' hz
        omega
  have hs2 := hT.sum
  have m1 : 1 * (vB + a / b * nB) ≤ b * (vB + a / b * nB) := Int.mul_le_mul_of_nonneg_right (by omega) (by omega)
  have m2 : 0 ≤ a % b * nB := Int.mul_nonneg hr0 (by omega)
  exact ⟨hT, ⟨q2, by omega⟩, ⟨by omega, by omega⟩, by omega, by omega⟩
/-- What the turns answer: nothing sure, or two rests that are so of all numbers that begin so. -/
def TurnsOk (a0 b0 uA uB vA vB : Int) : Prop :=
  uB = 0 ∨ ∃ s : Int, (s = 1 ∨ s = -1) ∧ uA * vB - vA * uB = s ∧ (0 ≤ uA ∧ uA < 4294967296) ∧ (0 ≤ uB ∧ uB < 4294967296) ∧ (0 ≤ vA ∧ vA < 4294967296) ∧ (0 ≤ vB ∧ vB < 4294967296) ∧
    ∀ A B K : Int, 0 < K → a0 * K ≤ A → A < a0 * K + K → b0 * K ≤ B → B < b0 * K + K → 0 ≤ -s * (vA * A - vB * B) ∧ -s * (vA * A - vB * B) < s * (uA * A - uB * B) ∧ s * (uA * A - uB * B) ≤ B
theorem Turn.ok {a0 b0 a b uA uB vA vB s : Int} (h : Turn a0 b0 a b uA uB vA vB s) (g1 : vB ≤ b) (g2 : uB + vB ≤ a - b) (ha : a0 < 18446744073709551616) : TurnsOk a0 b0 uA uB vA vB := by
  have hb := h.bound g1 ha
  have hv := h.v0
  have hn := h.n0
  have hu := h.up
  have hl := h.le
  rcases (show uB = 0 ∨ uB ≠ 0 by omega) with hz | hz
  · exact .inl hz
  · refine .inr ⟨s, h.hs, h.det, ⟨hv.1, by omega⟩, ⟨hv.2, by omega⟩, ⟨hn.1, by omega⟩, ⟨by omega, by omega⟩, fun A B K hK hA hA' hB hB' => ?_⟩
    have := h.sure g1 g2 hK hA hA' hB hB'
    exact ⟨this.1, this.2, h.cap A B K hK hA hA' hB hB' hz⟩
end Go.Proofs.Ytkjojpeamabdmaa
/- Plain maths of whole numbers with a sign: what a sign and limbs are; floor division; and of half limbs. No program stands in it. -/
namespace Go.Proofs.Ytkjojpeamabdmaa
/-- A sign and how far from 0. -/
def sgv (s : Bool) (M : Int) : Int := bif s then -M else M
theorem sgv_false (M : Int) : sgv false M = M := rfl
theorem sgv_true (M : Int) : sgv true M = -M := rfl
/-- A number is right: no nought at the end, and 0 has no sign. -/
def rgt (s : Bool) (xs : List Int) : Bool := match xs.getLast? with
  | none => !s
  | some z => z != 0
theorem rgt_nil (s : Bool) : rgt s [] = !s := rfl
theorem rgt_get {s : Bool} {xs : List Int} {z : Int} {n : Nat} (hn : xs.length = n + 1) (h : xs[n]? = some z) : rgt s xs = (z != 0) := by
  have : xs.getLast? = some z := by rw [List.getLast?_eq_getElem?, hn]; exact h
  unfold rgt
  rw [this]
theorem rgt_tr {s : Bool} {xs : List Int} (h : rgt s xs = true) : Tr xs := by
  by_cases hne : xs = []
  · subst hne; exact Tr.nil
  · obtain ⟨zs, z, rfl⟩ : ∃ zs z, xs = zs ++ [z] := ⟨xs.dropLast, xs.getLast hne, (List.dropLast_concat_getLast hne).symm⟩
    have : rgt s (zs ++ [z]) = (z != 0) := rgt_get (n := zs.length) (by simp) (by simp)
    rw [this] at h
    exact tl_snoc_ne _ (by simpa using h)
theorem rgt_of {s : Bool} {xs : List Int} (ht : Tr xs) (h0 : xs = [] → s = false) : rgt s xs = true := by
  by_cases hne : xs = []
  · subst hne; rw [rgt_nil, h0 rfl]; rfl
  · obtain ⟨zs, z, rfl, hz, _⟩ := ht.last hne
    have : rgt s (zs ++ [z]) = (z != 0) := rgt_get (n := zs.length) (by simp) (by simp)
    rw [this]
    simpa using hz
theorem rgt_zero {s : Bool} {xs : List Int} (hx : Dg 4294967296 xs) (h : rgt s xs = true) (hv : val 4294967296 xs = 0) : s = false := by
  have := Tr.zero (by decide) hx (rgt_tr h) hv
  subst this
  rw [rgt_nil] at h
  simpa using h
theorem rgt_pos {s : Bool} {xs : List Int} (hx : Dg 4294967296 xs) (h : rgt s xs = true) (hs : s = true) : 0 < val 4294967296 xs := by
  have h0 := val_nonneg (by decide) hx
  rcases Int.lt_or_eq_of_le h0 with h1 | h1
  · exact h1
  · have := rgt_zero hx h h1.symm
    rw [hs] at this
    cases this
/-- What a sign and limbs are: 0, if they are not right. -/
def ival (s : Bool) (xs : List Int) : Int := bif rgt s xs then sgv s (val 4294967296 xs) else 0
theorem ival_right {s : Bool} {xs : List Int} (h : rgt s xs = true) : ival s xs = sgv s (val 4294967296 xs) := by unfold ival; rw [h]; rfl
/-- The number's own sign and limbs. -/
structure Whole (N : Int) (s : Bool) (xs : List Int) : Prop where
  row : Row 4294967296 (N.natAbs : Int) xs
  sg : s = decide (N < 0)
theorem Whole.right {N : Int} {s : Bool} {xs : List Int} (h : Whole N s xs) : rgt s xs = true := rgt_of h.row.tr fun e => by
  have := h.row.val
  rw [e] at this
  simp [Go.Proofs.Ytkjojpeamabdmaa.val] at this
  rw [h.sg]
  simp
  omega
theorem Whole.val {N : Int} {s : Bool} {xs : List Int} (h : Whole N s xs) : ival s xs = N := by
  rw [ival_right h.right, h.row.val, h.sg]
  by_cases hn : N < 0
  · simp [hn, sgv]; omega
  · simp [hn, sgv]; omega
theorem Whole.of {s : Bool} {xs : List Int} (hx : Dg 4294967296 xs) (h : rgt s xs = true) : Whole (sgv s (Go.Proofs.Ytkjojpeamabdmaa.val 4294967296 xs)) s xs := by
  have h0 := val_nonneg (β := 4294967296) (by decide) hx
  cases s with
  | false => exact ⟨⟨hx, rgt_tr h, by rw [sgv_false]; omega⟩, (decide_eq_false (by rw [sgv_false]; omega)).symm⟩
  | true =>
    have := rgt_pos hx h rfl
    exact ⟨⟨hx, rgt_tr h, by rw [sgv_true]; omega⟩, (decide_eq_true (by rw [sgv_true]; omega)).symm⟩
theorem Whole.mk' {s : Bool} {M : Int} {xs : List Int} (h : Row 4294967296 M xs) (h0 : 0 ≤ M) (hs : s = true → M ≠ 0) : Whole (sgv s M) s xs := by
  cases s with
  | false => exact ⟨by rw [sgv_false]; rw [show ((M.natAbs : Nat) : Int) = M by omega]; exact h, (decide_eq_false (by rw [sgv_false]; omega)).symm⟩
  | true =>
    have := hs rfl
    exact ⟨by rw [sgv_true]; rw [show (((-M).natAbs : Nat) : Int) = M by omega]; exact h, (decide_eq_true (by rw [sgv_true]; omega)).symm⟩
theorem Whole.zero : Whole 0 false [] := ⟨⟨Dg.nil, Tr.nil, rfl⟩, rfl⟩
end Go.Proofs.Ytkjojpeamabdmaa
/- Plain maths of half limbs: a product, what is left of a number when another one is taken from it so often, halved bounds, limbs made in place. No program stands in it. -/
namespace Go.Proofs.Ytkjojpeamabdmaa
open Go Go.RowKit
/-- A product, digit row by digit row: X's first i taken so far; noughts stand behind, one more than is wanted. -/
structure MulJ (β : Int) (X Y P : List Int) (i : Nat) : Prop where
  dg : Dg β P
  len : P.length = X.length + Y.length + 1
  num : val β P = val β (X.take i) * val β Y
  zero : P.drop (i + Y.length) = List.replicate (X.length - i + 1) 0
theorem MulJ.start {β : Int} (hβ : 0 < β) (X Y : List Int) : MulJ β X Y (List.replicate (X.length + Y.length + 1) 0) 0 :=
  ⟨Dg.zeros hβ _, by simp, by simp [val, val_zeros], by simp; omega⟩
theorem MulJ.next {β : Int} {X Y P S1 : List Int} {i : Nat} {x cr : Int} (h : MulJ β X Y P i) (hx : X[i]? = some x) (hm : Mac β 1 x P Y S1 i Y.length cr) : S1[i + Y.length]? = some 0 := by
  have hi := lt_of_get hx
  have := congrArg (fun l => l[0]?) (hm.rest.trans h.zero)
  simp only [List.getElem?_drop, Nat.add_zero, List.getElem?_replicate] at this
  rw [this, if_pos (by omega)]
theorem MulJ.step {β : Int} {X Y P S1 : List Int} {i : Nat} {x cr : Int} (h : MulJ β X Y P i) (hx : X[i]? = some x) (hm : Mac β 1 x P Y S1 i Y.length cr) (hc : 0 ≤ cr ∧ cr < β) :
    MulJ β X Y (S1.set (i + Y.length) cr) (i + 1) := by
  have hi := lt_of_get hx
  have hz := h.next hx hm
  refine ⟨hm.dg.set hc, by simp [hm.len, h.len], ?_, ?_⟩
  · have hs := hm.stop rfl (by have := h.len; omega)
    rw [val_set hz, val_take_next, hx, Option.getD_some]
    have hn := h.num
    grind
  · rw [List.drop_set_of_lt (by omega), show i + 1 + Y.length = (i + Y.length) + 1 by omega, ← List.drop_drop, hm.rest, h.zero, List.drop_replicate]
    congr 1
    omega
theorem set_same {S : List Int} {k : Nat} {s : Int} (h : S[k]? = some s) : S.set k s = S := by
  refine List.ext_getElem? fun j => ?_
  rw [List.getElem?_set]
  split
  · rename_i e; subst e; rw [if_pos (lt_of_get h), h]
  · rfl
theorem MulJ.keep {β : Int} {X Y P S1 : List Int} {i : Nat} {x : Int} (h : MulJ β X Y P i) (hx : X[i]? = some x) (hm : Mac β 1 x P Y S1 i Y.length 0) (hβ : 0 < β) : MulJ β X Y S1 (i + 1) := by
  have := h.step hx hm ⟨Int.le_refl _, hβ⟩
  rwa [set_same (h.next hx hm)] at this
theorem MulJ.done {β : Int} {X Y P : List Int} (h : MulJ β X Y P X.length) : val β P = val β X * val β Y := by
  have := h.num
  rwa [List.take_of_length_le (Nat.le_refl _)] at this
theorem Acc.down {β F c : Int} (hβ : 0 < β) {O : List Int} {i : Nat} (h : Acc β F O i (-c)) (hc : 0 ≤ c) (hF : 0 ≤ F) : val β O = F := by
  have h1 := h.num
  have h2 := val_lt hβ h.dg
  rw [h.len] at h2
  have h3 := pow_pos' hβ i
  rcases Int.lt_or_eq_of_le hc with hc | rfl
  · have : β ^ i * 1 ≤ β ^ i * c := Int.mul_le_mul_of_nonneg_left (by omega) (by omega)
    rw [Int.mul_neg] at h1
    omega
  · simpa using h1
/-- The bounds are halved: V goes into U at least lo times, and less than hi times. -/
structure Halve (U V lo hi : Int) : Prop where
  lo0 : 0 ≤ lo
  lt : lo < hi
  hi0 : hi ≤ 65536
  low : lo * V ≤ U
  high : U < hi * V
theorem Halve.start {U V : Int} (h0 : 0 ≤ U) (h : U < 65536 * V) : Halve U V 0 65536 := ⟨by omega, by omega, by omega, by omega, h⟩
theorem Halve.mid {U V lo hi : Int} (h : Halve U V lo hi) (hd : 1 < hi - lo) : lo < (lo + hi) / 2 ∧ (lo + hi) / 2 < hi := by
  have := h.lt
  omega
theorem Halve.down {U V lo hi : Int} (h : Halve U V lo hi) (hd : 1 < hi - lo) (ht : U < V * ((lo + hi) / 2)) : Halve U V lo ((lo + hi) / 2) := by
  have := h.mid hd
  exact ⟨h.lo0, this.1, by have := h.hi0; omega, h.low, by rw [Int.mul_comm]; exact ht⟩
theorem Halve.up {U V lo hi : Int} (h : Halve U V lo hi) (hd : 1 < hi - lo) (ht : V * ((lo + hi) / 2) ≤ U) : Halve U V ((lo + hi) / 2) hi := by
  have := h.mid hd
  exact ⟨by have := h.lo0; omega, this.2, h.hi0, by rw [Int.mul_comm]; exact ht, h.high⟩
theorem Halve.done {U V lo hi : Int} (h : Halve U V lo hi) (hd : ¬ 1 < hi - lo) : U / V = lo ∧ (0 ≤ lo ∧ lo < 65536) ∧ lo * V ≤ U ∧ U - lo * V < V := by
  have e : hi = lo + 1 := by have := h.lt; omega
  have h1 := h.high
  rw [e, Int.add_mul, Int.one_mul] at h1
  have h2 := h.low
  have h3 := h.hi0
  exact ⟨(quo_eq (r := U - lo * V) (by omega) (by omega) (by omega)).1, ⟨h.lo0, by omega⟩, h2, by omega⟩
/-- A digit put ahead of what is left. -/
theorem ahead {β x R V : Int} (hx : 0 ≤ x ∧ x < β) (hR : 0 ≤ R ∧ R < V) : 0 ≤ x + β * R ∧ x + β * R < β * V := by
  have h0 : 0 ≤ β * R := Int.mul_nonneg (by omega) hR.1
  have h1 : β * (R + 1) ≤ β * V := Int.mul_le_mul_of_nonneg_left (by omega) (by omega)
  rw [Int.mul_add] at h1
  omega
theorem Whole.len {N : Int} {s : Bool} {ys : List Int} {k : Nat} (h : Whole N s ys) (hk : (N.natAbs : Int) < 4294967296 ^ k) : ys.length ≤ k := h.row.len_le (by decide) hk
theorem add_lt {N M : Int} {n m : Nat} (h1 : (N.natAbs : Int) < 4294967296 ^ n) (h2 : (M.natAbs : Int) < 4294967296 ^ m) : ((N + M).natAbs : Int) < 4294967296 ^ (max n m + 1) := by
  have a := Int.lt_of_lt_of_le h1 (pow_mono (by decide) (show n ≤ max n m by omega))
  have b := Int.lt_of_lt_of_le h2 (pow_mono (by decide) (show m ≤ max n m by omega))
  rw [Int.pow_succ]
  have := pow_pos' (show (0 : Int) < 4294967296 by decide) (max n m)
  omega
theorem mul_lt {N M : Int} {n m : Nat} (h1 : (N.natAbs : Int) < 4294967296 ^ n) (h2 : (M.natAbs : Int) < 4294967296 ^ m) : ((N * M).natAbs : Int) < 4294967296 ^ (n + m) := by
  rw [Int.natAbs_mul, Int.natCast_mul, Int.pow_add]
  have p := pow_pos' (show (0 : Int) < 4294967296 by decide) n
  exact Int.lt_of_le_of_lt (Int.mul_le_mul_of_nonneg_left (Int.le_of_lt h2) (by omega)) (Int.mul_lt_mul_of_pos_right h1 (by have := pow_pos' (show (0 : Int) < 4294967296 by decide) m; omega))
end Go.Proofs.Ytkjojpeamabdmaa
/- Plain maths of sums of whole numbers. No program stands in it. -/
namespace Go.Proofs.Ytkjojpeamabdmaa
open Go Go.RowKit
/-- The sum of numbers, each a sign and limbs. -/
def isum (l : List (Bool × List Int)) : Int := l.foldr (fun p a => ival p.1 p.2 + a) 0
theorem isum_append (a b : List (Bool × List Int)) : isum (a ++ b) = isum a + isum b := by
  induction a with
  | nil => simp [isum]
  | cons p a ih =>
    have e : isum (p :: a ++ b) = ival p.1 p.2 + isum (a ++ b) := rfl
    have e2 : isum (p :: a) = ival p.1 p.2 + isum a := rfl
    rw [e, e2, ih]; omega
theorem isum_next {l : List (Bool × List Int)} {i : Nat} {s : Bool} {xs : List Int} (h : l[i]? = some (s, xs)) : isum (l.take (i + 1)) = isum (l.take i) + ival s xs := by
  rw [List.take_add_one, h, isum_append]
  have : isum (some (s, xs)).toList = ival s xs := by simp [isum]
  rw [this]
end Go.Proofs.Ytkjojpeamabdmaa
/- Plain facts on numbers that are written in decimal digits. No program stands in it. -/
namespace Go.Proofs.Ytkjojpeamabdmaa
open Go Go.RowKit
/-- A digit; a number, written; what it is. -/
def isDig (c : UInt8) : Prop := 48 ≤ (c.toNat : Int) ∧ (c.toNat : Int) ≤ 57
def dval (l : List UInt8) : Int := l.foldl (fun a c => 10 * a + ((c.toNat : Int) - 48)) 0
theorem dval_foldl (l : List UInt8) (a : Int) : l.foldl (fun a c => 10 * a + ((c.toNat : Int) - 48)) a = a * 10 ^ l.length + dval l := by
  unfold dval
  induction l generalizing a with
  | nil => simp
  | cons c l ih =>
    simp only [List.foldl_cons, List.length_cons]
    rw [ih, ih (10 * 0 + ((c.toNat : Int) - 48)), Int.pow_succ]
    generalize List.foldl _ 0 l = d
    generalize (10 : Int) ^ l.length = p
    generalize (c.toNat : Int) - 48 = k
    grind
theorem dval_append (a b : List UInt8) : dval (a ++ b) = dval a * 10 ^ b.length + dval b := by
  unfold dval
  rw [List.foldl_append]
  exact dval_foldl b _
theorem dval_bound (l : List UInt8) (h : ∀ c ∈ l, isDig c) : 0 ≤ dval l ∧ dval l < 10 ^ l.length := by
  induction l with
  | nil => simp [dval]
  | cons c l ih =>
    obtain ⟨h1, h2⟩ := ih (fun x hx => h x (by simp [hx]))
    have hc := h c (by simp)
    unfold isDig at hc
    have e : dval (c :: l) = ((c.toNat : Int) - 48) * 10 ^ l.length + dval l := by
      have := dval_append [c] l
      simpa [dval] using this
    have p := pow_pos' (show (0 : Int) < 10 by decide) l.length
    have m0 : 0 ≤ ((c.toNat : Int) - 48) * 10 ^ l.length := Int.mul_nonneg (by omega) (by omega)
    have m1 : ((c.toNat : Int) - 48) * 10 ^ l.length ≤ 9 * 10 ^ l.length := Int.mul_le_mul_of_nonneg_right (by omega) (by omega)
    rw [e, List.length_cons, Int.pow_succ]
    omega
/-- Big digits of a number, n so far; q is left. -/
structure BlkI (N q : Int) (n : Nat) (D : List Int) : Prop where
  dg : Dg 1000000000 D
  len : D.length = 456
  num : N = val 1000000000 (D.take n) + 1000000000 ^ n * q
  q0 : 0 ≤ q
  top : q = 0 → n = 0 ∨ ∃ d, D[n - 1]? = some d ∧ 0 < d
theorem BlkI.step {N q : Int} {n : Nat} {D : List Int} (h : BlkI N q n D) (hq : 0 < q) (hn : n < 456) : BlkI N (q / 1000000000) (n + 1) (D.set n (q % 1000000000)) := by
  have hs : (D.set n (q % 1000000000))[n]? = some (q % 1000000000) := List.getElem?_set_self (by rw [h.len]; exact hn)
  refine ⟨h.dg.set (by omega), by rw [List.length_set, h.len], ?_, by omega, fun h0 => .inr ⟨q % 1000000000, hs, by omega⟩⟩
  rw [take_succ_of hs, val_snoc, List.take_set_of_le (Nat.le_refl _), List.length_take, Nat.min_eq_left (by have := h.len; omega), h.num, Int.pow_succ]
  have := Int.mul_ediv_add_emod q 1000000000
  grind
end Go.Proofs.Ytkjojpeamabdmaa
/- Numbers that are written, there and back. No program stands in it. -/
namespace Go.Proofs.Ytkjojpeamabdmaa
open Go Go.RowKit
def sgn (b : Bool) : Int := if b then 1 else -1
end Go.Proofs.Ytkjojpeamabdmaa
/- math/bits on 32 bits: Add32, Sub32, Mul32, Div32: what each call answers. -/
namespace Go.Proofs.Ytkjojpeamabdmaa
open Go Go.RowKit
end Go.Proofs.Ytkjojpeamabdmaa
/- limb: Cmp, addTo, takeFrom: what each call answers, and leaves. -/
namespace Go.Proofs.Ytkjojpeamabdmaa
open Go Go.RowKit
def CmpR (xs ys : List Int) (e : Ending) : Prop := e = .returned (.int .i64 (cmpI (val 4294967296 xs) (val 4294967296 ys)))
/-- From place k on both rows are alike. -/
def Alike_ (xs ys : List Int) (k : Nat) : Prop := xs.drop k = ys.drop k
theorem CmpR.same {xs ys : List Int} (h : Alike_ (tl xs) (tl ys) 0) : CmpR xs ys (.returned (.int .i64 0)) := by
  unfold CmpR
  rw [cmpI_eq]
  unfold Alike_ at h
  simp only [List.drop_zero] at h
  rw [← tl_val _ xs, ← tl_val _ ys, h]
theorem CmpR.len {xs ys : List Int} (hx : Dg 4294967296 xs) (hy : Dg 4294967296 ys) {n1 n2 : Nat} (h1 : (tl xs).length = n1) (h2 : (tl ys).length = n2) (hne : n1 ≠ n2) :
    CmpR xs ys (.returned (.int .i64 (sgn (decide (n2 < n1))))) := by
  unfold CmpR
  rw [← tl_val _ xs, ← tl_val _ ys]
  by_cases hlt : n2 < n1
  · rw [cmpI_gt (val_lt_of_len (by decide) (tl_Dg hy) (tl_Dg hx) (tl_idem xs) (by omega))]; simp [hlt, sgn]
  · rw [cmpI_lt (val_lt_of_len (by decide) (tl_Dg hx) (tl_Dg hy) (tl_idem ys) (by omega))]; simp [hlt, sgn]
/-- In the midst of it. -/
def PutI (σ : Int) (w : World) (B : Nat) (A : Option Addr) (n c : Nat) (S X : List Int) (i : Nat) (cr : Int) (wr : World) : Prop :=
  ∃ S1, Own .u32 77 wr B A n c S1 ∧ Carry 4294967296 σ S X S1 i cr ∧ w.grownBy wr (blk A)
theorem PutI.set {σ : Int} {w : World} {B : Nat} {A : Option Addr} {n c : Nat} {S X : List Int} {i : Nat} {cr : Int} {wr : World} (h : PutI σ w B A n c S X i cr wr) (hi : i < n) :
    ∃ g s, A = some ⟨g, 0, none⟩ ∧ B ≤ g ∧ (0 ≤ s ∧ s < 4294967296) ∧ (0 ≤ cr ∧ cr ≤ 1) ∧ wr.cell? ⟨g, i, none⟩ = some (.int .u32 s) ∧ wr.frozen? ⟨g, i, none⟩ = false ∧
      ∀ d x cr', X[i]?.getD 0 = x → (0 ≤ d ∧ d < 4294967296) → (0 ≤ cr' ∧ cr' ≤ 1) → d + σ * (4294967296 * cr') = s + σ * (x + cr) →
        PutI σ w B A n c S X (i + 1) cr' (wr.setCell ⟨g, i, none⟩ (.int .u32 d)) := by
  obtain ⟨S1, ho, hc, hg⟩ := h
  obtain ⟨g, s, rfl, hB, hlt, hs, hcell, hfr, hput⟩ := ho.set hi
  refine ⟨g, s, rfl, hB, hc.dg.get hs, hc.c01, hcell, hfr, fun d x cr' hx hd hcr e => ?_⟩
  obtain ⟨h1, h2⟩ := hput d
  refine ⟨_, h1, hc.step hs hx hd hcr e, ?_⟩
  exact ⟨h2.os.trans hg.os, h2.tape.trans hg.tape, h2.output.trans hg.output, Nat.le_trans hg.size h2.size, fun k hk hne => (h2.block k (Nat.lt_of_lt_of_le hk hg.size) hne).trans (hg.block k hk hne)⟩
end Go.Proofs.Ytkjojpeamabdmaa
/- limb: takeFrom, Sub, MulSmall, DivSmall: what each call answers, and leaves. -/
namespace Go.Proofs.Ytkjojpeamabdmaa
open Go Go.RowKit
end Go.Proofs.Ytkjojpeamabdmaa
/- limb: Sub, Sum, Add: what each call answers, and leaves. -/
namespace Go.Proofs.Ytkjojpeamabdmaa
open Go Go.RowKit
/-- A slice of rows, below block B. -/
def SlS (w : World) (B : Nat) (A : Option Addr) (n c : Nat) (xss : List (List Int)) : Prop :=
  xss.length = n ∧ n ≤ c ∧ c ≤ maxLen ∧ (A = none → c = 0) ∧
    (0 < n → ∃ b off, A = some ⟨b, off, none⟩ ∧ b < B ∧ ∀ j xs, xss[j]? = some xs → ∃ A' n' c', w.cell? ⟨b, off + j, none⟩ = some (.slice A' n' c') ∧ Sl .u32 w B A' n' c' xs)
section
variable {w w' : World} {B : Nat} {A : Option Addr} {n c : Nat} {xss : List (List Int)}
theorem SlS.keep (h : SlS w B A n c xss) (hk : ∀ p : Addr, p.block < B → w'.cell? p = w.cell? p) : SlS w' B A n c xss := by
  refine ⟨h.1, h.2.1, h.2.2.1, h.2.2.2.1, fun hn => ?_⟩
  obtain ⟨b, off, hA, hb, hc⟩ := h.2.2.2.2 hn
  refine ⟨b, off, hA, hb, fun j x hx => ?_⟩
  obtain ⟨A', n', c', h1, h2⟩ := hc j x hx
  exact ⟨A', n', c', (hk _ hb).trans h1, h2.keep hk⟩
theorem SlS.below {B' : Nat} (h : SlS w B A n c xss) (hb : Below B' w w') (hB : B ≤ B') : SlS w' B A n c xss := h.keep fun _ hp => hb.cell (by omega)
theorem SlS.at_ (h : SlS w B A n c xss) {j : Nat} (hj : j < n) : ∃ b off xs A' n' c', A = some ⟨b, off, none⟩ ∧ b < B ∧ xss[j]? = some xs ∧ w.cell? ⟨b, off + j, none⟩ = some (.slice A' n' c') ∧ Sl .u32 w B A' n' c' xs := by
  obtain ⟨b, off, hA, hb, hc⟩ := h.2.2.2.2 (by omega)
  have hl : j < xss.length := by have := h.1; omega
  obtain ⟨A', n', c', h1, h2⟩ := hc j _ (List.getElem?_eq_getElem hl)
  exact ⟨b, off, xss[j], A', n', c', hA, hb, List.getElem?_eq_getElem hl, h1, h2⟩
theorem SlS.lenMax (h : SlS w B A n c xss) : n ≤ 9223372036854775807 := by
  have h1 := h.2.1
  have h2 := h.2.2.1
  unfold maxLen at h2
  omega
end
/-- All rows together. -/
def sumV (xss : List (List Int)) : Int := (xss.map (val 4294967296)).sum
theorem sumV_snoc (l : List (List Int)) (xs : List Int) : sumV (l ++ [xs]) = sumV l + val 4294967296 xs := by simp [sumV]
/-- Each of the first i has at most M digits, without its noughts. -/
def Most (xss : List (List Int)) (i M : Nat) : Prop := ∀ j xs, j < i → xss[j]? = some xs → (tl xs).length ≤ M
theorem Most.step {xss : List (List Int)} {i M L : Nat} (h : Most xss i M) {xs : List Int} (hx : xss[i]? = some xs) (hL : (tl xs).length = L) : Most xss (i + 1) (max M L) := by
  intro j ys hj hy
  by_cases hji : j = i
  · subst hji
    rw [hx] at hy
    injection hy with hy
    subst hy
    omega
  · have := h j ys (by omega) hy
    omega
/-- In the midst of a sum. -/
structure SumI (xss : List (List Int)) (M i : Nat) (S : List Int) : Prop where
  dg : Dg 4294967296 S
  num : val 4294967296 S = sumV (xss.take i)
  most : val 4294967296 S ≤ (i : Int) * 4294967296 ^ M
theorem SumI.fit {xss : List (List Int)} {M i : Nat} {S xs : List Int} (h : SumI xss M i S) (hx : Dg 4294967296 xs) (hl : (tl xs).length ≤ M) (hi : (i : Int) + 1 ≤ 9223372036854775807) :
    val 4294967296 S + val 4294967296 xs ≤ ((i : Int) + 1) * 4294967296 ^ M ∧ val 4294967296 S + val 4294967296 xs < 4294967296 ^ (M + 2) := by
  refine sum_fit hi h.most ?_
  rw [← tl_val]
  exact Int.lt_of_lt_of_le (val_lt (by decide) (tl_Dg hx)) (pow_mono (by decide) hl)
theorem SumI.step {xss : List (List Int)} {M i : Nat} {S S1 xs : List Int} (h : SumI xss M i S) (ex : xss[i]? = some xs) (hd : Dg 4294967296 S1) (hv : val 4294967296 S1 = val 4294967296 S + val 4294967296 xs)
    (hm : val 4294967296 S + val 4294967296 xs ≤ ((i : Int) + 1) * 4294967296 ^ M) : SumI xss M (i + 1) S1 := by
  refine ⟨hd, ?_, by rw [hv]; exact hm⟩
  rw [hv, h.num, List.take_add_one, ex]
  exact (sumV_snoc _ _).symm
theorem SlS.two (w : World) {B : Nat} {A A2 : Option Addr} {n c m c2 : Nat} {xs ys : List Int} (hB : B ≤ w.heap.size) (hs : Sl .u32 w B A n c xs) (ht : Sl .u32 w B A2 m c2 ys) (t : TypeId) :
    SlS (w.alloc (.cells #[.slice A n c, .slice A2 m c2] t)) (w.heap.size + 1) (some ⟨w.heap.size, 0, none⟩) 2 2 [xs, ys] := by
  refine ⟨rfl, Nat.le_refl _, by unfold maxLen; omega, fun h => (by cases h), fun _ => ⟨w.heap.size, 0, rfl, by omega, fun j zs hz => ?_⟩⟩
  have hj : j < 2 := (List.getElem?_eq_some_iff.1 hz).1
  rcases j with _ | _ | j
  · simp at hz; subst hz
    exact ⟨A, n, c, by simp [World.cell?_alloc_new], (hs.alloc hB _).more (by omega)⟩
  · simp at hz; subst hz
    exact ⟨A2, m, c2, by simp [World.cell?_alloc_new], (ht.alloc hB _).more (by omega)⟩
  · omega
end Go.Proofs.Ytkjojpeamabdmaa
/- limb: shiftUp, shiftDown, Shift: what each call answers, and leaves. -/
namespace Go.Proofs.Ytkjojpeamabdmaa
open Go Go.RowKit
end Go.Proofs.Ytkjojpeamabdmaa
/- limb: Bits: what it answers. -/
namespace Go.Proofs.Ytkjojpeamabdmaa
open Go Go.RowKit
end Go.Proofs.Ytkjojpeamabdmaa
/- limb: Cmp and Shift once more, as callers want them. -/
namespace Go.Proofs.Ytkjojpeamabdmaa
open Go Go.RowKit
/-- Half limbs. -/
def hv : List Int → List Int
  | [] => []
  | x :: xs => x % 65536 :: x / 65536 :: hv xs
end Go.Proofs.Ytkjojpeamabdmaa
/- tallageref01: limbs, Trim, Cmp, Bits: what each call answers. -/
namespace Go.Proofs.Ytkjojpeamabdmaa
open Go Go.RowKit
end Go.Proofs.Ytkjojpeamabdmaa
/- tallageref01: Add, Sub, Sum, MulSmall, DivSmall: what each call answers. -/
namespace Go.Proofs.Ytkjojpeamabdmaa
open Go Go.RowKit
end Go.Proofs.Ytkjojpeamabdmaa
/- tallageref01: Sub, Sum, Shift: what each call answers. -/
namespace Go.Proofs.Ytkjojpeamabdmaa
open Go Go.RowKit
theorem Below.own {w w' : World} {g : Nat} (h : w.grownBy w' (some g)) {B : Nat} (hg : B ≤ g) (hB : B ≤ w.heap.size) : Below B w w' :=
  (Below.refl _ _).grown h hB (fun k hk => by injection hk with hk; omega)
end Go.Proofs.Ytkjojpeamabdmaa
/- nat: rows of slices: products and lengths of rows, fronts, backs. -/
namespace Go.Proofs.Ytkjojpeamabdmaa
open Go Go.RowKit
theorem SlS.more {w : World} {B B' : Nat} {A : Option Addr} {n c : Nat} {xss : List (List Int)} (h : SlS w B A n c xss) (hB : B ≤ B') : SlS w B' A n c xss := by
  refine ⟨h.1, h.2.1, h.2.2.1, h.2.2.2.1, fun hn => ?_⟩
  obtain ⟨b, off, hA, hb, hc⟩ := h.2.2.2.2 hn
  refine ⟨b, off, hA, by omega, fun j x hx => ?_⟩
  obtain ⟨A', n', c', e1, e2⟩ := hc j x hx
  exact ⟨A', n', c', e1, e2.more hB⟩
end Go.Proofs.Ytkjojpeamabdmaa
/- nat: takeTimes, putBack, guess, takeDigit: what each call answers, and leaves. -/
namespace Go.Proofs.Ytkjojpeamabdmaa
open Go Go.RowKit
end Go.Proofs.Ytkjojpeamabdmaa
/- nat: divide, DivMod: what each call answers, and leaves. -/
namespace Go.Proofs.Ytkjojpeamabdmaa
open Go Go.RowKit
/-- Both do not lie in one block. -/
def Sep (A A2 : Option Addr) : Prop := blk A = none ∨ blk A ≠ blk A2
theorem Sep.symm {A A2 : Option Addr} (h : Sep A A2) : Sep A2 A := by
  rcases h with h | h
  · cases h2 : blk A2 with
    | none => exact .inl h2
    | some g => exact .inr (by rw [h2, h]; intro e; cases e)
  · exact .inr fun e => h e.symm
end Go.Proofs.Ytkjojpeamabdmaa
/- nat: the parts of Gcd: what each call answers, and leaves. -/
namespace Go.Proofs.Ytkjojpeamabdmaa
open Go Go.RowKit
end Go.Proofs.Ytkjojpeamabdmaa
/- nat: turns, apart, lessened: what each call answers, and leaves. -/
namespace Go.Proofs.Ytkjojpeamabdmaa
open Go Go.RowKit
def GotO (w : World) (Bs : Nat) (A : Option Addr) (n c : Nat) (N : Int) : Prop := ∃ ys, Row 4294967296 N ys ∧ Own .u32 77 w Bs A n c ys
theorem GotO.below {w w' : World} {Bs : Nat} {A : Option Addr} {n c : Nat} {N : Int} (h : GotO w Bs A n c N) (hb : Below w.heap.size w w') : GotO w' Bs A n c N := by
  obtain ⟨ys, hr, ho⟩ := h
  exact ⟨ys, hr, ho.below hb⟩
end Go.Proofs.Ytkjojpeamabdmaa
/- strconv.FormatUint, strconv.AppendUint at base 10: what each call answers, over the library's own parts. -/
namespace Go.Proofs.Ytkjojpeamabdmaa
open Go Go.RowKit Go.Sort
end Go.Proofs.Ytkjojpeamabdmaa
/- nat: written, digitsOf, Parse: what each call answers, and leaves. -/
namespace Go.Proofs.Ytkjojpeamabdmaa
open Go Go.RowKit
/-- Big digits of a text: n of them behind the first k letters. -/
structure BigI (s : ByteArray) (L n : Nat) (D : List Int) : Prop where
  dg : Dg 1000000000 D
  len : D.length = 456
  num : dval s.data.toList = val 1000000000 (D.take n) + 1000000000 ^ n * dval (s.data.toList.take L)
  fit : L + 9 * n ≤ s.size + 8 ∧ (0 < L → L + 9 * n = s.size)
theorem BigI.start (s : ByteArray) : BigI s s.size 0 (List.replicate 456 0) :=
  ⟨Dg.zeros (by decide) _, List.length_replicate, by rw [List.take_of_length_le (show s.data.toList.length ≤ s.size by simp), List.take_zero, Int.pow_zero]; simp only [val]; omega, by omega⟩
theorem BigI.step {s : ByteArray} {L n : Nat} {D : List Int} (h : BigI s L n D) (hs : s.size ≤ 4104) (hd : ∀ c ∈ s.data.toList, isDig c) (h0 : 0 < L) {cut : Nat} (hc : cut + 9 = L ∨ (L < 9 ∧ cut = 0)) :
    n < 456 ∧ (∀ c ∈ (s.data.toList.take L).drop cut, isDig c) ∧ (s.data.toList.take L).drop cut ≠ [] ∧ ((s.data.toList.take L).drop cut).length ≤ 9 ∧
      (0 ≤ dval ((s.data.toList.take L).drop cut) ∧ dval ((s.data.toList.take L).drop cut) < 1000000000) ∧ BigI s cut (n + 1) (D.set n (dval ((s.data.toList.take L).drop cut))) := by
  have hf := h.fit.2 h0
  have hLs : L ≤ s.size := by omega
  have hn : n < 456 := by omega
  have hl : s.data.toList.length = s.size := by simp
  have hdd : ∀ c ∈ (s.data.toList.take L).drop cut, isDig c := fun c hx => hd c (List.mem_of_mem_take (List.mem_of_mem_drop hx))
  have hlen : ((s.data.toList.take L).drop cut).length = L - cut := by rw [List.length_drop, List.length_take, hl]; omega
  have hb := dval_bound _ hdd
  rw [hlen] at hb
  have hp : (10 : Int) ^ (L - cut) ≤ 10 ^ 9 := pow_mono (by decide) (by omega)
  have hr : 0 ≤ dval ((s.data.toList.take L).drop cut) ∧ dval ((s.data.toList.take L).drop cut) < 1000000000 := by omega
  refine ⟨hn, hdd, fun e => by rw [e] at hlen; simp at hlen; omega, by omega, hr, h.dg.set hr, by simp [h.len], ?_, by omega⟩
  have hset : (D.set n (dval ((s.data.toList.take L).drop cut)))[n]? = some (dval ((s.data.toList.take L).drop cut))   := List.getElem?_set_self (by rw [h.len]; exact hn)
  rw [take_succ_of hset, val_snoc, List.take_set_of_le (Nat.le_refl _), List.length_take, Nat.min_eq_left (by have := h.len; omega), h.num]
  have e1 : dval (s.data.toList.take L) = dval (s.data.toList.take cut) * 10 ^ (L - cut) + dval ((s.data.toList.take L).drop cut) := by
    conv => lhs; rw [← List.take_append_drop cut (s.data.toList.take L)]
    rw [dval_append, hlen, List.take_take, Nat.min_eq_left (by omega)]
  rw [e1]
  rcases hc with hc | ⟨_, rfl⟩
  · rw [show L - cut = 9 by omega, show (10 : Int) ^ 9 = 1000000000 from rfl, Int.pow_succ]
    grind
  · simp only [List.take_zero]
    have : dval [] = 0 := rfl
    rw [this]
    grind
section
variable {k : IntKind} {e : TypeId} {w w' : World} {B g n : Nat} {xs : List Int}
theorem Own.heap (h : Own k e w B (some ⟨g, 0, none⟩) n n xs) : w.heap[g]? = some (.cells (xs.map (Value.int k)).toArray e (0, 0)) := by
  have hl := h.len
  rcases h.2 with ⟨hv, _⟩ | ⟨g', cap, cur, hv, hb, hg, h1, h2, h3, h4⟩
  · cases hv
  · injection hv with hv h5 h6
    injection hv with hv
    injection hv with hv
    subst hv
    subst h6
    have hcur : cur.toList = xs.map (Value.int k) := by rw [← h4, List.take_of_length_le (by simp; omega)]
    rw [hg, ← hcur]
end
end Go.Proofs.Ytkjojpeamabdmaa
/- nat: putBlock, Put: what each call answers, and leaves. -/
namespace Go.Proofs.Ytkjojpeamabdmaa
open Go Go.RowKit
end Go.Proofs.Ytkjojpeamabdmaa
namespace Go.Proofs.Ytkjojpeamabdmaa
open Go Go.ChangeShapes Go.WideShapes Go.ChangeAt Go.RowKit Go.Deep
/-- A slice of whole numbers, each a sign and limbs, below block B. -/
def SlB (w : World) (B : Nat) (A : Option Addr) (n c : Nat) (l : List (Bool × List Int)) : Prop :=
  l.length = n ∧ n ≤ c ∧ c ≤ maxLen ∧ (A = none → c = 0) ∧
    (0 < n → ∃ b off, A = some ⟨b, off, none⟩ ∧ b < B ∧ ∀ (j : Nat) (s : Bool) (xs : List Int), l[j]? = some (s, xs) → ∃ A' n' c', w.cell? ⟨b, off + j * 2, none⟩ = some (.bool s) ∧ w.cell? ⟨b, off + j * 2 + 1, none⟩ = some (.slice A' n' c') ∧ Sl .u32 w B A' n' c' xs)
section
variable {w w' : World} {B B' : Nat} {A : Option Addr} {n c : Nat} {l : List (Bool × List Int)}
theorem SlB.len (h : SlB w B A n c l) : l.length = n := h.1
theorem SlB.le (h : SlB w B A n c l) : n ≤ c := h.2.1
theorem SlB.cap (h : SlB w B A n c l) : c ≤ maxLen := h.2.2.1
theorem SlB.keep (h : SlB w B A n c l) (hk : ∀ p : Addr, p.block < B → w'.cell? p = w.cell? p) : SlB w' B A n c l := by
  refine ⟨h.1, h.2.1, h.2.2.1, h.2.2.2.1, fun hn => ?_⟩
  obtain ⟨b, off, hA, hb, hc⟩ := h.2.2.2.2 hn
  refine ⟨b, off, hA, hb, fun j s xs hx => ?_⟩
  obtain ⟨A', n', c', h1, h2, h3⟩ := hc j s xs hx
  exact ⟨A', n', c', (hk _ hb).trans h1, (hk _ hb).trans h2, h3.keep hk⟩
theorem SlB.more (h : SlB w B A n c l) (hB : B ≤ B') : SlB w B' A n c l := by
  refine ⟨h.1, h.2.1, h.2.2.1, h.2.2.2.1, fun hn => ?_⟩
  obtain ⟨b, off, hA, hb, hc⟩ := h.2.2.2.2 hn
  refine ⟨b, off, hA, by omega, fun j s xs hx => ?_⟩
  obtain ⟨A', n', c', h1, h2, h3⟩ := hc j s xs hx
  exact ⟨A', n', c', h1, h2, h3.more hB⟩
theorem SlB.below (h : SlB w B A n c l) (hb : Below B' w w') (hB : B ≤ B') : SlB w' B A n c l := h.keep fun _ hp => hb.cell (by omega)
theorem SlB.alloc (h : SlB w B A n c l) (hB : B ≤ w.heap.size) (o : Obj) : SlB (w.alloc o) B A n c l := h.keep fun p hp => World.cell?_alloc_lt w o p (by omega)
theorem SlB.setCell (h : SlB w B A n c l) {p : Addr} (hp : B ≤ p.block) (u : Value) : SlB (w.setCell p u) B A n c l :=
  h.keep fun q hq => World.cell?_setCell_other w p q u (fun e => by subst e; omega)
/-- The number at a place that is there. -/
theorem SlB.at_ (h : SlB w B A n c l) {j : Nat} (hj : j < n) : ∃ b off s xs A' n' c', A = some ⟨b, off, none⟩ ∧ b < B ∧ l[j]? = some (s, xs) ∧ w.cell? ⟨b, off + j * 2, none⟩ = some (.bool s) ∧ w.cell? ⟨b, off + j * 2 + 1, none⟩ = some (.slice A' n' c') ∧ Sl .u32 w B A' n' c' xs := by
  obtain ⟨b, off, hA, hb, hc⟩ := h.2.2.2.2 (by omega)
  have hl : j < l.length := by have := h.1; omega
  obtain ⟨A', n', c', h1, h2, h3⟩ := hc j l[j].1 l[j].2 (List.getElem?_eq_getElem hl)
  exact ⟨b, off, _, _, A', n', c', hA, hb, List.getElem?_eq_getElem hl, h1, h2, h3⟩
end
section
variable {H : Type} {enc : TypeId × Value → H} {P : Program}
end
end Go.Proofs.Ytkjojpeamabdmaa
