/- tallagelaw03.BigReckons: rows of answers that are compared and written over, one after another. -/
import Derived.Test.YtbjooeapjhaapaaGreatDoorBLawU
import Derived.Test.YtbjooeapjhaapaaGreatDoorBLawP
namespace Go.Proofs.YtbjooeapjhaapaaGreatDoor
open Go Go.RowKit

/-- A number that was answered: its sign, limbs, and where they lie. -/
@[reducible] def LRow := Bool × List Int × Option Addr × Nat × Nat
def rowsO (w : World) (S : Nat) (l : List LRow) : Prop := ∀ p ∈ l, Own .u32 66 w S p.2.2.1 p.2.2.2.1 p.2.2.2.2 p.2.1
def cellsO : List LRow → List Value
  | [] => []
  | p :: l => .bool p.1 :: .slice p.2.2.1 p.2.2.2.1 p.2.2.2.2 :: cellsO l
def within (a b : Nat) (l : List LRow) : Prop := ∀ p ∈ l, ∀ g, blk p.2.2.1 = some g → a ≤ g ∧ g < b
theorem cellsO_get : ∀ {l : List LRow} {j : Nat} {p : LRow}, l[j]? = some p → (cellsO l)[j * 2]? = some (.bool p.1) ∧ (cellsO l)[j * 2 + 1]? = some (.slice p.2.2.1 p.2.2.2.1 p.2.2.2.2)
  | [], _, _, h => by simp at h
  | q :: l, 0, p, h => by
    obtain rfl : q = p := by simpa using h
    exact ⟨rfl, rfl⟩
  | q :: l, j + 1, p, h => by
    have h' : l[j]? = some p := by simpa using h
    obtain ⟨h1, h2⟩ := cellsO_get h'
    rw [show (j + 1) * 2 = j * 2 + 1 + 1 by omega]
    exact ⟨by simpa [cellsO] using h1, by simpa [cellsO] using h2⟩
section
variable {w w' : World} {S S' : Nat} {l m : List LRow}
theorem rowsO.below (h : rowsO w S l) (hb : Below w.heap.size w w') : rowsO w' S l := fun p hp => (h p hp).below hb
theorem rowsO.lower (h : rowsO w S l) (hS : S' ≤ S) : rowsO w S' l := fun p hp => (h p hp).lower hS
theorem rowsO.app (h : rowsO w S l) (h' : rowsO w S m) : rowsO w S (l ++ m) := fun p hp => (List.mem_append.1 hp).elim (h p) (h' p)
theorem rowsO.keep (h : rowsO w S l) {r : Option Nat} (hg : w.grownBy w' r) (hne : ∀ p ∈ l, ∀ g, blk p.2.2.1 = some g → r ≠ some g) : rowsO w' S l := by
  intro p hp
  refine (h p hp).keep hg ?_
  cases e : blk p.2.2.1 with
  | none => exact .inl rfl
  | some g => exact .inr fun h => hne p hp g e h.symm
end
theorem sep_lt {A A2 : Option Addr} {a : Nat} (h : ∀ g, blk A = some g → g < a) (h2 : ∀ g, blk A2 = some g → a ≤ g) : Sep A A2 := by
  unfold Sep
  cases e : blk A with
  | none => exact .inl rfl
  | some g => exact .inr fun h3 => by have := h g e; have := h2 g h3.symm; omega
theorem sep_ne {A : Option Addr} {g : Nat} {A2 : Option Addr} (h : Sep A A2) (e : blk A = some g) : blk A2 ≠ some g := by
  rcases h with h | h
  · rw [e] at h; cases h
  · exact fun h2 => h (e.trans h2.symm)
theorem sep_lies {A LA : Option Addr} {r z : Nat} (h : ∀ g, blk A = some g → g ≠ r ∧ g < z) (hf : ∀ g, blk LA = some g → g = r ∨ z ≤ g) : Sep A LA := by
  unfold Sep
  cases e : blk A with
  | none => exact .inl rfl
  | some g => exact .inr fun h3 => by have := h g e; have := hf g h3.symm; omega
theorem same_of_map {l k : List LRow} (h : l.map (fun p => (p.1, p.2.1)) = k.map (fun p => (p.1, p.2.1))) (j : Nat) (p q : LRow) (hp : l[j]? = some p) (hq : k[j]? = some q) : p.1 = q.1 ∧ p.2.1 = q.2.1 := by
  have h1 : (l.map (fun p => (p.1, p.2.1)))[j]? = some (p.1, p.2.1) := by rw [List.getElem?_map, hp]; rfl
  have h2 : (k.map (fun p => (p.1, p.2.1)))[j]? = some (q.1, q.2.1) := by rw [List.getElem?_map, hq]; rfl
  rw [h, h2] at h1
  injection h1 with h1
  injection h1 with a b
  exact ⟨a.symm, b.symm⟩
/-- The rows of answers from i on, and all that they are compared with. -/
def InnerM (W : World) (S : Nat) (l k : List LRow) (i : Nat) (LA KA : Option Addr) (lc kc : Nat) (wr : World) : Prop :=
  OwnV 2 24 wr S LA 8 lc (cellsO l) ∧ OwnV 2 26 wr S KA 8 kc (cellsO k) ∧ rowsO wr S (l.drop i) ∧ rowsO wr 0 k ∧ Below S W wr
/-- What holds of the answers' places. -/
structure Places (l k : List LRow) (LA KA : Option Addr) : Prop where
  ll : l.length = 8
  kl : k.length = 8
  same : ∀ (j : Nat) (p q : LRow), l[j]? = some p → k[j]? = some q → p.1 = q.1 ∧ p.2.1 = q.2.1
  pw : l.Pairwise fun p q => Sep p.2.2.1 q.2.2.1
  lk : ∀ p ∈ l, ∀ q ∈ k, Sep p.2.2.1 q.2.2.1
  la : ∀ p ∈ l, Sep p.2.2.1 LA
  ka : ∀ p ∈ l, Sep p.2.2.1 KA
section
variable {W wr w' : World} {S : Nat} {l k : List LRow} {i : Nat} {LA KA : Option Addr} {lc kc : Nat} {p : LRow}
theorem InnerM.below (h : InnerM W S l k i LA KA lc kc wr) (hb : Below wr.heap.size wr w') (hS : S ≤ wr.heap.size) : InnerM W S l k i LA KA lc kc w' :=
  ⟨h.1.below hb, h.2.1.below hb, h.2.2.1.below hb, h.2.2.2.1.below hb, h.2.2.2.2.trans (hb.mono hS)⟩
theorem InnerM.at_ (h : InnerM W S l k i LA KA lc kc wr) (hP : Places l k LA KA) (hi : i < 8) : ∃ p q g g', l[i]? = some p ∧ k[i]? = some q ∧ p.1 = q.1 ∧ p.2.1 = q.2.1 ∧ LA = some ⟨g, 0, none⟩ ∧ KA = some ⟨g', 0, none⟩ ∧ g < wr.heap.size ∧ g' < wr.heap.size ∧
    wr.cell? ⟨g, 0 + i * 2, none⟩ = some (.bool p.1) ∧ wr.cell? ⟨g, 0 + i * 2 + 1, none⟩ = some (.slice p.2.2.1 p.2.2.2.1 p.2.2.2.2) ∧ wr.cell? ⟨g', 0 + i * 2, none⟩ = some (.bool q.1) ∧ wr.cell? ⟨g', 0 + i * 2 + 1, none⟩ = some (.slice q.2.2.1 q.2.2.2.1 q.2.2.2.2) ∧
    Own .u32 66 wr S p.2.2.1 p.2.2.2.1 p.2.2.2.2 p.2.1 ∧ Own .u32 66 wr 0 q.2.2.1 q.2.2.2.1 q.2.2.2.2 q.2.1 := by
  obtain ⟨h1, h2, h3, h4, h5⟩ := h
  have hl : i < l.length := by rw [hP.ll]; exact hi
  have hk : i < k.length := by rw [hP.kl]; exact hi
  have e1 : l[i]? = some l[i] := List.getElem?_eq_getElem hl
  have e2 : k[i]? = some k[i] := List.getElem?_eq_getElem hk
  obtain ⟨a1, a2⟩ := hP.same i _ _ e1 e2
  obtain ⟨c1, c2⟩ := cellsO_get e1
  obtain ⟨d1, d2⟩ := cellsO_get e2
  rcases h1.form with ⟨_, h0, _⟩ | ⟨g, rfl, hg1, hg2⟩
  · cases h0
  rcases h2.form with ⟨_, h0, _⟩ | ⟨g', rfl, hk1, hk2⟩
  · cases h0
  obtain ⟨b, off, hA, _, hc⟩ := h1.sl.2.2.2.2 (by omega)
  injection hA with hA
  injection hA with hA1 hA2
  subst hA1; subst hA2
  obtain ⟨b, off, hA, _, hd⟩ := h2.sl.2.2.2.2 (by omega)
  injection hA with hA
  injection hA with hA1 hA2
  subst hA1; subst hA2
  exact ⟨l[i], k[i], g, g', e1, e2, a1, a2, rfl, rfl, hg2, hk2, hc _ _ c1, hc _ _ c2, hd _ _ d1, hd _ _ d2, h3 _ (by rw [List.drop_eq_getElem_cons hl]; exact List.mem_cons_self), h4 _ (List.getElem_mem hk)⟩
theorem InnerM.step (h : InnerM W S l k i LA KA lc kc wr) (hP : Places l k LA KA) (ex : l[i]? = some p) (hg : wr.grownBy w' (blk p.2.2.1)) (hS : S ≤ wr.heap.size) : InnerM W S l k (i + 1) LA KA lc kc w' := by
  obtain ⟨h1, h2, h3, h4, h5⟩ := h
  have hl : i < l.length := (List.getElem?_eq_some_iff.1 ex).1
  have he : l[i] = p := (List.getElem?_eq_some_iff.1 ex).2
  have hd : l.drop i = p :: l.drop (i + 1) := by rw [List.drop_eq_getElem_cons hl, he]
  have hp : p ∈ l := List.mem_of_getElem? ex
  have ho := h3 p (by rw [hd]; exact List.mem_cons_self)
  have hpw : ∀ q ∈ l.drop (i + 1), Sep p.2.2.1 q.2.2.1 := by
    have := hP.pw.drop (i := i)
    rw [hd] at this
    exact (List.pairwise_cons.1 this).1
  have flip : ∀ {A2 : Option Addr}, Sep p.2.2.1 A2 → blk A2 = none ∨ blk A2 ≠ blk p.2.2.1 := fun hs => hs.symm
  refine ⟨h1.keep hg (flip (hP.la p hp)), h2.keep hg (flip (hP.ka p hp)), ?_, ?_, h5.grown hg hS fun g e => (ho.blk_ g e).1⟩
  · exact rowsO.keep (fun q hq => h3 q (by rw [hd]; exact List.mem_cons_of_mem _ hq)) hg fun q hq g e h => sep_ne (hpw q hq).symm e h
  · exact rowsO.keep h4 hg fun q hq g e h => sep_ne (hP.lk p hp q hq).symm e h
end
section
variable {E : List (Nat × STy)} {w0 : World} {d : Nat} {ty : TypeId} {pos : String} {af : Array Edge} {gd : Option (Nat × Bool)}
set_option maxRecDepth 20000 in
theorem stb_boxo {s r o : Nat} {u0 u1 : Value} (hp : OpIs E (.tmp s) (.pointer (some ⟨r, o, none⟩))) (h0 : ∀ W, Below w0.heap.size w0 W → W.cell? ⟨r, o, none⟩ = some u0) (h1 : ∀ W, Below w0.heap.size w0 W → W.cell? ⟨r, o + 1, none⟩ = some u1) (hd : ∀ w, (slotTy E d).holds w (.agg #[u0, u1])) :
    OpStep Tryz.prog E w0 ⟨some d, .load 24 (.tmp s), ty, pos, af, gd⟩ := by
  intro ρ w hc hf hb hs
  have e := hp _ _ hs.1
  have c0 := h0 w hb
  have c1 := h1 w hb
  clear hp hs h0 h1
  unfold Yields
  go_simp
  exact ⟨hd _, Below.refl _ _⟩
set_option maxRecDepth 20000 in
theorem stb_idx {sx si b off n c k : Nat} (hx : OpIs E (.tmp sx) (.slice (some ⟨b, off, none⟩) n c)) (hi : OpIs E (.tmp si) (.int .i64 k)) (hk : k < n) (hd : ∀ w, (slotTy E d).holds w (.pointer (some ⟨b, off + k * 2, none⟩))) :
    OpStep Tryz.prog E w0 ⟨some d, .indexAddr 33 (.tmp sx) (.tmp si), ty, pos, af, gd⟩ := by
  intro ρ w hc hf hb hs
  have h1 := hx _ _ hs.1
  have h2 := hi _ _ hs.2.1
  have hk' : (k : Int) < n := by omega
  clear hx hi hs
  unfold Yields
  go_simp
  exact ⟨hd _, Below.refl _ _⟩
end
end Go.Proofs.YtbjooeapjhaapaaGreatDoor
