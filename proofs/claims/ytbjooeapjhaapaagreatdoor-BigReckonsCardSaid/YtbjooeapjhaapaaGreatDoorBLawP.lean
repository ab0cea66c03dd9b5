/- tallagelaw03.BigSums: the two rows that it makes, and sums as steps of regions. -/
import Derived.Test.YtbjooeapjhaapaaGreatDoorBStepE
import Derived.Test.YtbjooeapjhaapaaGreatDoorBRefZ
namespace Go.Proofs.YtbjooeapjhaapaaGreatDoor
open Go Go.RowKit

theorem isum_rev (l : List (Bool × List Int)) : isum l.reverse = isum l := by
  induction l with
  | nil => rfl
  | cons p l ih =>
    rw [List.reverse_cons, isum_append, ih]
    simp only [isum, List.foldr_cons, List.foldr_nil]
    omega
theorem isum_size {l : List (Bool × List Int)} (hx : ∀ p ∈ l, Dg 4294967296 p.2) (hL : ∀ p ∈ l, p.2.length ≤ 30) (hl : l.length ≤ 10) : ((isum l).natAbs : Int) < 4294967296 ^ 31 := by
  have := isum_lt (i := l.length) hx hL (by omega)
  rwa [List.take_length] at this
theorem elemVB : ElemV Tryz.prog 33 24 2 32 := ⟨Tryz.underlying33, by decide, by
  obtain ⟨i, h1, h2, h3, h4⟩ : ∃ i, Tryz.prog.info? 24 = some i ∧ i.zero = some (.agg #[.bool false, .slice none 0 0]) ∧ i.size = 2 ∧ i.bytes = 32 := info_parts (by kernel_rfl)
  exact ⟨i, _, h1, h2, h3, h4, rfl⟩⟩
theorem elemVR : ElemV Tryz.prog 36 26 2 32 := ⟨Tryz.underlying36, by decide, by
  obtain ⟨i, h1, h2, h3, h4⟩ : ∃ i, Tryz.prog.info? 26 = some i ∧ i.zero = some (.agg #[.bool false, .slice none 0 0]) ∧ i.size = 2 ∧ i.bytes = 32 := info_parts (by kernel_rfl)
  exact ⟨i, _, h1, h2, h3, h4, rfl⟩⟩
/-- The row of the reference's numbers has i of them, the turned row k. -/
def SumM (w : World) (B : Nat) (l : List (Bool × List Int)) (i k : Nat) (A1 A2 : Option Addr) (c1 c2 : Nat) (vs us : List Value) (wr : World) : Prop :=
  OwnV 2 26 wr w.heap.size A1 i c1 vs ∧ OwnV 2 24 wr w.heap.size A2 k c2 us ∧ (blk A1 = none ∨ blk A1 ≠ blk A2) ∧ Below w.heap.size w wr ∧
  (∀ j s xs, j < i → l[j]? = some (s, xs) → ∃ A n c, vs[j * 2]? = some (.bool s) ∧ vs[j * 2 + 1]? = some (.slice A n c) ∧ Own .u32 66 wr w.heap.size A n c xs ∧ (blk A = none ∨ (blk A ≠ blk A1 ∧ blk A ≠ blk A2))) ∧
  (∀ j s xs, j < k → l.reverse[j]? = some (s, xs) → ∃ A n c, us[j * 2]? = some (.bool s) ∧ us[j * 2 + 1]? = some (.slice A n c) ∧ Sl .u32 w B A n c xs)
section
variable {w wr w1 w5 : World} {B i k : Nat} {l : List (Bool × List Int)} {A1 A2 A3 : Option Addr} {c1 c2 c3 : Nat} {vs us : List Value} {s : Bool} {xs : List Int} {A : Option Addr} {n c : Nat}
theorem SumM.start : SumM w B l 0 0 none none 0 0 [] [] w := ⟨OwnV.nil, OwnV.nil, .inl rfl, Below.refl _ _, fun j _ _ h => absurd h (by omega), fun j _ _ h => absurd h (by omega)⟩
theorem SumM.below (h : SumM w B l i k A1 A2 c1 c2 vs us wr) (hb : Below wr.heap.size wr w1) : SumM w B l i k A1 A2 c1 c2 vs us w1 := by
  obtain ⟨h1, h2, h3, h4, h5, h6⟩ := h
  refine ⟨h1.below hb, h2.below hb, h3, h4.trans (hb.mono h4.size), fun j s xs hj e => ?_, h6⟩
  obtain ⟨A, n, c, e1, e2, ho, hs⟩ := h5 j s xs hj e
  exact ⟨A, n, c, e1, e2, ho.below hb, hs⟩
theorem lies_ne {A A1 A3 : Option Addr} (hf : Lies wr A1 A3) (hA : ∀ g, blk A = some g → g < wr.heap.size) (hne : blk A = none ∨ blk A ≠ blk A1) : blk A = none ∨ blk A ≠ blk A3 := by
  cases h : blk A with
  | none => exact .inl rfl
  | some g =>
    refine .inr fun e => ?_
    rcases hf g e.symm with h0 | h0
    · rcases hne with h5 | h5
      · rw [h] at h5; cases h5
      · exact h5 (h.trans h0.symm)
    · have := hA g h
      omega
theorem pair_get {vs : List Value} {k j : Nat} {a b : Value} (hl : vs.length = k * 2) : (j < k → (vs ++ [a, b])[j * 2]? = vs[j * 2]? ∧ (vs ++ [a, b])[j * 2 + 1]? = vs[j * 2 + 1]?) ∧ (vs ++ [a, b])[k * 2]? = some a ∧ (vs ++ [a, b])[k * 2 + 1]? = some b := by
  refine ⟨fun h => ⟨List.getElem?_append_left (by omega), List.getElem?_append_left (by omega)⟩, ?_, ?_⟩
  · rw [List.getElem?_append_right (by omega), hl, Nat.sub_self]; rfl
  · rw [List.getElem?_append_right (by omega), hl, show k * 2 + 1 - k * 2 = 1 by omega]; rfl
theorem SumM.ref (h : SumM w B l i k A1 A2 c1 c2 vs us wr) (ex : l[i]? = some (s, xs)) (ho : Own .u32 66 wr w.heap.size A n c xs) (hA : blk A = none ∨ (blk A ≠ blk A1 ∧ blk A ≠ blk A2))
    (h3 : OwnV 2 26 w5 w.heap.size A3 (i + 1) c3 (vs ++ [.bool s, .slice A n c])) (hg : wr.grownBy w5 (blk A1)) (hf : Lies wr A1 A3) : SumM w B l (i + 1) k A3 A2 c3 c2 (vs ++ [.bool s, .slice A n c]) us w5 := by
  obtain ⟨h1, h2, hne, h4, h5, h6⟩ := h
  have hsym : blk A2 = none ∨ blk A2 ≠ blk A1 := by
    cases e : blk A2 with
    | none => exact .inl rfl
    | some g =>
      refine .inr fun e2 => ?_
      rcases hne with h | h
      · rw [h] at e2; cases e2
      · exact h (e2.symm.trans e.symm)
  refine ⟨h3, h2.keep hg hsym, ?_, h4.grown hg h4.size fun g hg => (h1.blk_ g hg).1, fun j s' xs' hj e => ?_, h6⟩
  · have := lies_ne hf (fun g hg => (h2.blk_ g hg).2) hsym
    cases e : blk A3 with
    | none => exact .inl rfl
    | some g =>
      refine .inr fun e2 => ?_
      rcases this with h | h
      · rw [h] at e2; cases e2
      · exact h (e2.symm.trans e.symm)
  · obtain ⟨p1, p2, p3⟩ := pair_get (a := .bool s) (b := .slice A n c) (j := j) h1.len
    have key : ∀ {A' : Option Addr} {n' c' : Nat} {ys : List Int}, Own .u32 66 wr w.heap.size A' n' c' ys → (blk A' = none ∨ (blk A' ≠ blk A1 ∧ blk A' ≠ blk A2)) → Own .u32 66 w5 w.heap.size A' n' c' ys ∧ (blk A' = none ∨ (blk A' ≠ blk A3 ∧ blk A' ≠ blk A2)) := by
      intro A' n' c' ys o' s'
      refine ⟨o'.keep hg (s'.imp id And.left), ?_⟩
      rcases s' with s' | s'
      · exact .inl s'
      · rcases lies_ne hf (fun g hg => (o'.blk_ g hg).2) (.inr s'.1) with h | h
        · exact .inl h
        · exact .inr ⟨h, s'.2⟩
    by_cases hji : j < i
    · obtain ⟨A', n', c', e1, e2, o', s2⟩ := h5 j s' xs' hji e
      obtain ⟨q1, q2⟩ := p1 hji
      obtain ⟨o5, s5⟩ := key o' s2
      exact ⟨A', n', c', q1.trans e1, q2.trans e2, o5, s5⟩
    · obtain rfl : j = i := by omega
      rw [ex] at e
      injection e with e
      injection e with e1 e2
      subst e1; subst e2
      obtain ⟨o5, s5⟩ := key ho hA
      exact ⟨A, n, c, p2, p3, o5, s5⟩
theorem SumM.turn (h : SumM w B l i k A1 A2 c1 c2 vs us wr) (ex : l.reverse[k]? = some (s, xs)) (ho : Sl .u32 w B A n c xs)
    (h3 : OwnV 2 24 w5 w.heap.size A3 (k + 1) c3 (us ++ [.bool s, .slice A n c])) (hg : wr.grownBy w5 (blk A2)) (hf : Lies wr A2 A3) : SumM w B l i (k + 1) A1 A3 c1 c3 vs (us ++ [.bool s, .slice A n c]) w5 := by
  obtain ⟨h1, h2, hne, h4, h5, h6⟩ := h
  refine ⟨h1.keep hg hne, h3, lies_ne hf (fun g hg => (h1.blk_ g hg).2) hne, h4.grown hg h4.size fun g hg => (h2.blk_ g hg).1, fun j s' xs' hj e => ?_, fun j s' xs' hj e => ?_⟩
  · obtain ⟨A', n', c', e1, e2, o', s2⟩ := h5 j s' xs' hj e
    refine ⟨A', n', c', e1, e2, o'.keep hg (s2.imp id And.right), ?_⟩
    rcases s2 with s2 | s2
    · exact .inl s2
    · rcases lies_ne hf (fun g hg => (o'.blk_ g hg).2) (.inr s2.2) with h | h
      · exact .inl h
      · exact .inr ⟨s2.1, h⟩
  · obtain ⟨p1, p2, p3⟩ := pair_get (a := .bool s) (b := .slice A n c) (j := j) h2.len
    by_cases hjk : j < k
    · obtain ⟨A', n', c', e1, e2, o'⟩ := h6 j s' xs' hjk e
      obtain ⟨q1, q2⟩ := p1 hjk
      exact ⟨A', n', c', q1.trans e1, q2.trans e2, o'⟩
    · obtain rfl : j = k := by omega
      rw [ex] at e
      injection e with e
      injection e with e1 e2
      subst e1; subst e2
      exact ⟨A, n, c, p2, p3, ho⟩
theorem SumM.rows (h : SumM w B l i i A1 A2 c1 c2 vs us wr) (hl : l.length = i) (hB : B ≤ w.heap.size) : SlB wr wr.heap.size A1 i c1 l ∧ SlB wr wr.heap.size A2 i c2 l.reverse := by
  obtain ⟨h1, h2, hne, h4, h5, h6⟩ := h
  have k1 := h1.sl
  have k2 := h2.sl
  refine ⟨⟨hl, k1.2.1, k1.2.2.1, k1.2.2.2.1, fun hi => ?_⟩, ⟨by simpa using hl, k2.2.1, k2.2.2.1, k2.2.2.2.1, fun hi => ?_⟩⟩
  · obtain ⟨b, off, hA, hb, hc⟩ := k1.2.2.2.2 hi
    refine ⟨b, off, hA, hb, fun j s xs e => ?_⟩
    have hj : j < i := by have := (List.getElem?_eq_some_iff.1 e).1; omega
    obtain ⟨A', n', c', e1, e2, o', _⟩ := h5 j s xs hj e
    exact ⟨A', n', c', hc _ _ e1, hc _ _ e2, o'.sl⟩
  · obtain ⟨b, off, hA, hb, hc⟩ := k2.2.2.2.2 hi
    refine ⟨b, off, hA, hb, fun j s xs e => ?_⟩
    have hj : j < i := by have := (List.getElem?_eq_some_iff.1 e).1; rw [List.length_reverse] at this; omega
    obtain ⟨A', n', c', e1, e2, o'⟩ := h6 j s xs hj e
    exact ⟨A', n', c', hc _ _ e1, hc _ _ e2, (o'.below h4 hB).more (Nat.le_trans hB h4.size)⟩
end
theorem en_sum : Enters Tryz.prog 40 := fun _ _ => by kernel_rfl
theorem en_sum3 : Enters Tryz.prog 41 := fun _ _ => by kernel_rfl
section
variable {E : List (Nat × STy)} {w0 : World} {d : Nat} {ty : TypeId} {pos : String} {af : Array Edge} {gd : Option (Nat × Bool)} {ats : Array TypeId}
theorem sn_sum {o0 : Operand} {A : Option Addr} {n c : Nat} {l : List (Bool × List Int)} {N : Int} (h0 : OpIs E o0 (.slice A n c)) (hs : SlB w0 w0.heap.size A n c l) (hx : ∀ p ∈ l, Dg 4294967296 p.2) (hL : ∀ p ∈ l, p.2.length ≤ 30) (hn : n ≤ 10) (hN : isum l = N) (hd : ∀ w v, (STy.num N 31).holds w v → (slotTy E d).holds w v) :
    OpStep Tryz.prog E w0 ⟨some d, .call { callee := .value (.func 40), args := #[o0], argTypes := ats }, ty, pos, af, gd⟩ :=
  st_call1 en_sum (T0 := fun _ v => v = .slice A n c) h0.has fun W v0 hb k0 => by
    subst k0
    subst hN
    refine (bsum_any (hs.below hb (Nat.le_refl _)) hb.size hx hL (by decide) (by omega)).mono ?_
    intro e w' h
    obtain ⟨s2, A2, n2, c2, rfl, i2, hb2⟩ := h.rn (isum_size hx hL (by have := hs.len; omega))
    exact ⟨⟨_, rfl, hd _ _ ⟨_, _, _, _, rfl, i2⟩⟩, hb2⟩
theorem sn_sum3 {o0 : Operand} {A : Option Addr} {n c : Nat} {l : List (Bool × List Int)} {N : Int} (h0 : OpIs E o0 (.slice A n c)) (hs : SlB w0 w0.heap.size A n c l) (hx : ∀ p ∈ l, Dg 4294967296 p.2) (hL : ∀ p ∈ l, p.2.length ≤ 30) (hn : n ≤ 10) (hN : isum l = N) (hd : ∀ w v, (STy.num N 31).holds w v → (slotTy E d).holds w v) :
    OpStep Tryz.prog E w0 ⟨some d, .call { callee := .value (.func 41), args := #[o0], argTypes := ats }, ty, pos, af, gd⟩ :=
  st_call1 en_sum3 (T0 := fun _ v => v = .slice A n c) h0.has fun W v0 hb k0 => by
    subst k0
    subst hN
    refine (sum3_any (hs.below hb (Nat.le_refl _)) hb.size hx hL (by decide) (by omega)).mono ?_
    intro e w' h
    obtain ⟨s2, A2, n2, c2, rfl, i2, hb2⟩ := h.rn (isum_size hx hL (by have := hs.len; omega))
    exact ⟨⟨_, rfl, hd _ _ ⟨_, _, _, _, rfl, i2⟩⟩, hb2⟩
end
end Go.Proofs.YtbjooeapjhaapaaGreatDoor
