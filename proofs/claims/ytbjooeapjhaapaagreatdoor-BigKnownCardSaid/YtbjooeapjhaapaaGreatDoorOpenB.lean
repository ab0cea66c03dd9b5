/- Whole numbers with a sign, as arguments: one by value, a slice of such; and a slice of such as it is read. No program stands in it. -/
import Derived.Test.YtbjooeapjhaapaaGreatDoorMathU
import Derived.ProofKit
import Derived.Lib.SmallJoins
import Derived.Deep.Slices
import Derived.Deep.Fields
import Derived.ChangeSame
namespace Go.Proofs.YtbjooeapjhaapaaGreatDoor
open Go Go.ChangeShapes Go.WideShapes Go.ChangeAt Go.RowKit Go.Deep

/-- A slice of whole numbers, each a sign and limbs, below block B. -/
def SlB (w : World) (B : Nat) (A : Option Addr) (n c : Nat) (l : List (Bool × List Int)) : Prop :=
  l.length = n ∧ n ≤ c ∧ c ≤ maxLen ∧ (A = none → c = 0) ∧
    (0 < n → ∃ b off, A = some ⟨b, off, none⟩ ∧ b < B ∧ ∀ (j : Nat) (s : Bool) (xs : List Int), l[j]? = some (s, xs) → ∃ A' n' c', w.cell? ⟨b, off + j * 2, none⟩ = some (.bool s) ∧ w.cell? ⟨b, off + j * 2 + 1, none⟩ = some (.slice A' n' c') ∧ Sl .u32 w B A' n' c' xs)
section
variable {w w' : World} {B B' : Nat} {A : Option Addr} {n c : Nat} {l : List (Bool × List Int)}
theorem SlB.len (h : SlB w B A n c l) : l.length = n := h.1
theorem SlB.le (h : SlB w B A n c l) : n ≤ c := h.2.1
theorem SlB.cap (h : SlB w B A n c l) : c ≤ maxLen := h.2.2.1
theorem SlB.keep (h : SlB w B A n c l) (hk : ∀ p : Addr, p.block < B → w'.cell? p = w.cell? p) : SlB w' B A n c l := by
  refine ⟨h.1, h.2.1, h.2.2.1, h.2.2.2.1, fun hn => ?_⟩
  obtain ⟨b, off, hA, hb, hc⟩ := h.2.2.2.2 hn
  refine ⟨b, off, hA, hb, fun j s xs hx => ?_⟩
  obtain ⟨A', n', c', h1, h2, h3⟩ := hc j s xs hx
  exact ⟨A', n', c', (hk _ hb).trans h1, (hk _ hb).trans h2, h3.keep hk⟩
theorem SlB.more (h : SlB w B A n c l) (hB : B ≤ B') : SlB w B' A n c l := by
  refine ⟨h.1, h.2.1, h.2.2.1, h.2.2.2.1, fun hn => ?_⟩
  obtain ⟨b, off, hA, hb, hc⟩ := h.2.2.2.2 hn
  refine ⟨b, off, hA, by omega, fun j s xs hx => ?_⟩
  obtain ⟨A', n', c', h1, h2, h3⟩ := hc j s xs hx
  exact ⟨A', n', c', h1, h2, h3.more hB⟩
theorem SlB.below (h : SlB w B A n c l) (hb : Below B' w w') (hB : B ≤ B') : SlB w' B A n c l := h.keep fun _ hp => hb.cell (by omega)
theorem SlB.alloc (h : SlB w B A n c l) (hB : B ≤ w.heap.size) (o : Obj) : SlB (w.alloc o) B A n c l := h.keep fun p hp => World.cell?_alloc_lt w o p (by omega)
theorem SlB.setCell (h : SlB w B A n c l) {p : Addr} (hp : B ≤ p.block) (u : Value) : SlB (w.setCell p u) B A n c l :=
  h.keep fun q hq => World.cell?_setCell_other w p q u (fun e => by subst e; omega)
theorem SlB.none_ : SlB w B none 0 0 [] := ⟨rfl, Nat.le_refl _, Nat.zero_le _, fun _ => rfl, fun h => absurd h (by omega)⟩
/-- The number at a place that is there. -/
theorem SlB.at_ (h : SlB w B A n c l) {j : Nat} (hj : j < n) : ∃ b off s xs A' n' c', A = some ⟨b, off, none⟩ ∧ b < B ∧ l[j]? = some (s, xs) ∧ w.cell? ⟨b, off + j * 2, none⟩ = some (.bool s) ∧ w.cell? ⟨b, off + j * 2 + 1, none⟩ = some (.slice A' n' c') ∧ Sl .u32 w B A' n' c' xs := by
  obtain ⟨b, off, hA, hb, hc⟩ := h.2.2.2.2 (by omega)
  have hl : j < l.length := by have := h.1; omega
  obtain ⟨A', n', c', h1, h2, h3⟩ := hc j l[j].1 l[j].2 (List.getElem?_eq_getElem hl)
  exact ⟨b, off, _, _, A', n', c', hA, hb, List.getElem?_eq_getElem hl, h1, h2, h3⟩
end

section
variable {H : Type} {enc : TypeId × Value → H} {P : Program}
/-- A slice of integers that came in, wherever it stands. -/
theorem open_slf {t e : TypeId} {k : IntKind} (ht : P.underlying t = some (.slice e)) (he : P.underlying e = some (.int k)) (hc : P.cellsOf e = 1) {W : World} {v : Value} {y : DataW H × List MemPlace} {fuel : Nat}
    (h : DataW.trod enc P W 0 (fun _ => true) true fuel t [v] = some y) : ∃ A n c xs, v = .slice A n c ∧ Sl k W W.heap.size A n c xs ∧ ∀ x ∈ xs, (Lit.int k x).wf = true := by
  rcases open_ints ht he hc h with ⟨hcs, _⟩ | ⟨a, len, cap, zs, hcs, _, hl, hm, hz, _, hcell, hwf⟩
  · exact ⟨none, 0, 0, [], by simpa using hcs, Sl.nil, fun x hx => by cases hx⟩
  · simp only [if_true] at hz
    refine ⟨some a, len, cap, zs.take len, by simpa using hcs, ⟨by rw [List.length_take]; omega, hl, hm, fun h => (by cases h), fun hn => ?_⟩, fun x hx => hwf x (List.mem_of_mem_take hx)⟩
    obtain ⟨b, off, rfl, hc2⟩ := ints_at hcell (by omega)
    have h0 := hc2 0 (by omega)
    refine ⟨b, off, rfl, World.block_lt_of_cell? _ _ h0, fun j x hx => ?_⟩
    have hj : j < zs.length := by
      have := (List.getElem?_eq_some_iff.1 hx).1
      rw [List.length_take] at this
      omega
    rw [hc2 j hj]
    rw [List.getElem?_take] at hx
    split at hx
    · rw [List.getD, hx]; rfl
    · cases hx
/-- A whole number by value. -/
theorem open_whole {t : TypeId} {f0 f1 : Field} {e : TypeId} (hs : P.underlying t = some (.struct #[f0, f1])) (hone : oneCellFields P #[f0, f1] = true) (hC : P.cellsOf t = 2) (hb : P.underlying f0.type = some .bool)
    (hsl : P.underlying f1.type = some (.slice e)) (he : P.underlying e = some (.int .u32)) (hc : P.cellsOf e = 1) {W : World} {r : Reach} {b0 : Nat} {v : Value} {d : DataW H} {ps : List MemPlace}
    (hok : Value.okWide P W r b0 t v) (h : DataW.Trod enc P W 0 (fun _ => true) true t v d ps) :
    ∃ s A n c xs, v = .agg #[.bool s, .slice A n c] ∧ Sl .u32 W W.heap.size A n c xs ∧ ∀ x ∈ xs, (Lit.int .u32 x).wf = true := by
  obtain ⟨v0, v1, y0, y1, m, rfl, _, _, h0, h1⟩ := Go.Joins.open_agg2 hs hone hC hok h
  obtain ⟨s, e0, _⟩ := DataW.trod_bool hb h0
  obtain ⟨A, n, c, xs, rfl, hsl', hw⟩ := open_slf hsl he hc h1
  have : v0 = .bool s := by simpa using e0
  subst this
  exact ⟨s, A, n, c, xs, rfl, hsl', hw⟩
/-- A slice of whole numbers. -/
theorem open_wholes {t q : TypeId} {f0 f1 : Field} {e : TypeId} (ht : P.underlying t = some (.slice q)) (hs : P.underlying q = some (.struct #[f0, f1])) (hone : oneCellFields P #[f0, f1] = true) (hC : P.cellsOf q = 2) (hb : P.underlying f0.type = some .bool)
    (hsl : P.underlying f1.type = some (.slice e)) (he : P.underlying e = some (.int .u32)) (hc : P.cellsOf e = 1) {W : World} {r : Reach} {b0 : Nat} {v : Value} {d : DataW H} {ps : List MemPlace}
    (hok : Value.okWide P W r b0 t v) (h : DataW.Trod enc P W 0 (fun _ => true) true t v d ps) :
    ∃ A n c l, v = .slice A n c ∧ SlB W W.heap.size A n c l ∧ ∀ p ∈ l, ∀ x ∈ p.2, (Lit.int .u32 x).wf = true := by
  obtain ⟨A, n, c, rfl⟩ := okWide_slice ht hok
  obtain ⟨fuel, hf⟩ := h
  rcases Deep.open_slice ht hf with ⟨hcs, _⟩ | ⟨a, len, cap, m, k, D, Pl, hcs, _, hl, hm, hmm, _, hi⟩
  · have : Value.slice A n c = .slice none 0 0 := by simpa [Value.cells] using hcs
    injection this with h1 h2 h3
    subst h1; subst h2; subst h3
    exact ⟨none, 0, 0, [], rfl, SlB.none_, fun p hp => by cases hp⟩
  · have : Value.slice A n c = .slice (some a) len cap := by simpa [Value.cells] using hcs
    injection this with h1 h2 h3
    subst h1; subst h2; subst h3
    simp only [if_true] at hmm
    have each : ∀ i, i < n → ∃ (s : Bool) (A' : Option Addr) (n' c' : Nat) (xs : List Int), W.cell? (a.add (i * 2)) = some (.bool s) ∧ W.cell? ((a.add (i * 2)).add 1) = some (.slice A' n' c') ∧ Sl .u32 W W.heap.size A' n' c' xs ∧ ∀ x ∈ xs, (Lit.int .u32 x).wf = true := by
      intro i hin
      obtain ⟨cs', hcs', hy⟩ := hi i (by omega)
      rw [hC] at hcs'
      obtain ⟨_, hcl, hat⟩ := World.cells?_some hcs'
      obtain ⟨ys, n', _, _, _, hyl, hg⟩ := DataW.trod_struct hs hy
      obtain ⟨o0, k0⟩ := hone_of hone 0 f0 rfl
      obtain ⟨o1, k1⟩ := hone_of hone 1 f1 rfl
      have g0 := hg 0 f0 rfl
      have g1 := hg 1 f1 rfl
      rw [o0, k0] at g0
      rw [o1, k1] at g1
      have t0 := hat 0 (by omega)
      have t1 := hat 1 (by omega)
      rw [Go.Deep.add_add, Nat.add_zero] at t0
      obtain ⟨c0, c1, rfl⟩ : ∃ c0 c1, cs' = [c0, c1] := by
        match cs', hcl with
        | [c0, c1], _ => exact ⟨c0, c1, rfl⟩
      obtain ⟨y0, y1, rfl⟩ : ∃ y0 y1, ys = [y0, y1] := by
        match ys, hyl with
        | [y0, y1], _ => exact ⟨y0, y1, rfl⟩
      obtain ⟨s, e0, _⟩ := DataW.trod_bool hb (x := y0) (by simpa using g0)
      obtain ⟨A', n', c', xs, e1, hsl', hw⟩ := open_slf hsl he hc (y := y1) (v := c1) (by simpa using g1)
      have : c0 = .bool s := by simpa using e0
      subst this
      subst e1
      exact ⟨s, A', n', c', xs, by simpa using t0, by simpa using t1, hsl', hw⟩
    obtain ⟨f, hf'⟩ : ∃ f : Nat → Bool × List Int, ∀ i, i < n → ∃ (A' : Option Addr) (n' c' : Nat), W.cell? (a.add (i * 2)) = some (.bool (f i).1) ∧ W.cell? ((a.add (i * 2)).add 1) = some (.slice A' n' c') ∧ Sl .u32 W W.heap.size A' n' c' (f i).2 ∧ ∀ x ∈ (f i).2, (Lit.int .u32 x).wf = true := by
      refine ⟨fun i => if h : i < n then ((each i h).choose, (each i h).choose_spec.choose_spec.choose_spec.choose_spec.choose) else (false, []), fun i hin => ?_⟩
      simp only [dif_pos hin]
      exact ⟨_, _, _, (each i hin).choose_spec.choose_spec.choose_spec.choose_spec.choose_spec⟩
    refine ⟨some a, n, c, (List.range n).map f, rfl, ⟨by simp, hl, hm, fun h => (by cases h), fun hn => ?_⟩, fun p hp x hx => ?_⟩
    · obtain ⟨b, off, spot⟩ := a
      obtain ⟨A0, n0, c0, hc0, _⟩ := hf' 0 (by omega)
      have hspot : spot = none := by simpa [Addr.add] using World.cell?_spot hc0
      subst hspot
      have hb0 := World.block_lt_of_cell? _ _ hc0
      refine ⟨b, off, rfl, by simpa [Addr.add_lit] using hb0, fun j s xs hx => ?_⟩
      have hj : j < n := by have := (List.getElem?_eq_some_iff.1 hx).1; simpa using this
      obtain ⟨A', n', c', h1, h2, h3, _⟩ := hf' j hj
      have hxs : f j = (s, xs) := by
        rw [List.getElem?_map, List.getElem?_range hj] at hx
        simpa using hx
      rw [hxs] at h1 h3
      exact ⟨A', n', c', by simpa [Addr.add_lit] using h1, by simpa [Addr.add_lit] using h2, h3⟩
    · obtain ⟨i, hi', rfl⟩ := List.mem_map.1 hp
      have hin : i < n := by simpa using hi'
      obtain ⟨_, _, _, _, _, _, h4⟩ := hf' i hin
      exact h4 x hx
end
end Go.Proofs.YtbjooeapjhaapaaGreatDoor
